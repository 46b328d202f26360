/- Part 4 of the texts that the statements of this seat lean on: mathematics, and what functions answer, as contracts over memory; each part says its own conditions. -/
import Derived.Test.YtohokfbohdoijaaGreatDoorM3
import Derived.BigQuiet
import Derived.IntWalk
import Derived.Deep.QuietTactic
import Derived.Laws.Rows
import Derived.RegionTactic
import Derived.BigRegion
import Derived.Deep.RegionHeld3
import Derived.Deep.CutRange
import Derived.Laws.BitsAllLaws
import Derived.Deep.RegionWith
/- A block of cells as a list (a local array, a struct): what it holds, what a store leaves of it. Of any program; no condition. -/
namespace Go.Proofs.YtohokfbohdoijaaGreatDoor
open Go.RowKit Limb
set_option linter.unusedVariables false
def RowV (w : World) (g : Nat) (T : TypeId) (vs : List Value) : Prop := w.heap[g]? = some (.cells vs.toArray T (0, 0))
section
variable {w w' : World} {g : Nat} {T : TypeId} {vs : List Value}
theorem RowV.lt (h : RowV w g T vs) : g < w.heap.size := by
 rcases Nat.lt_or_ge g w.heap.size with hlt | hge
 · exact hlt
 · unfold RowV at h; rw [Array.getElem?_eq_none hge] at h; cases h
theorem RowV.below (h : RowV w g T vs) (hb : Below w.heap.size w w') : RowV w' g T vs := (hb.block g h.lt).trans h
theorem RowV.cell (h : RowV w g T vs) {k : Nat} {v : Value} (hk : vs[k]? = some v) : w.cell? ⟨g, k, none⟩ = some v := by
 unfold RowV at h
 have e : (vs.toArray)[k]? = some v := by rw [List.getElem?_toArray]; exact hk
 simp only [World.cell?, h]
 exact e
theorem RowV.free (h : RowV w g T vs) (k : Nat) : w.frozen? ⟨g, k, none⟩ = false := by unfold RowV at h; simp [World.frozen?, h]
theorem RowV.set (h : RowV w g T vs) (k : Nat) (v : Value) : RowV (w.setCell ⟨g, k, none⟩ v) g T (vs.set k v) := by
 unfold RowV at h ⊢
 have e : (vs.set k v).toArray = vs.toArray.setIfInBounds k v := by simp
 rw [e]
 simp [World.setCell, Array.getElem?_modify, h]
theorem RowV.far (h : RowV w g T vs) {g' : Nat} (hne : g' ≠ g) (k : Nat) (v : Value) : RowV (w.setCell ⟨g', k, none⟩ v) g T vs := by
 unfold RowV at h ⊢
 simp only [World.setCell, Array.getElem?_modify]
 rw [if_neg hne]
 exact h
theorem RowV.noLimb (h : RowV w g T vs) (hv : ∀ v ∈ vs, ∀ x, v ≠ .int .u32 x) : NoLimb w g := by
 intro o x e
 unfold RowV at h
 have h2 : vs[o]? = some (.int .u32 x) := by
  have h3 : (vs.toArray)[o]? = some (.int .u32 x) := by
   simp only [World.cell?, h] at e
   exact e
  rwa [List.getElem?_toArray] at h3
 exact hv _ (List.mem_of_getElem? h2) x rfl
end
theorem below_set {w w' : World} {B g : Nat} (h : Below B w w') (hg : B ≤ g) (k : Nat) (v : Value) : Below B w (w'.setCell ⟨g, k, none⟩ v) := h.setCell (by exact hg) v
end Go.Proofs.YtohokfbohdoijaaGreatDoor

/- What package quo's limbAt, head and gcdSmall answer, as contracts over memory: a limb, 0 beyond; the 64 bits from a place on; the greatest divisor of two words. Conditions: the list reads as limbs, of at most 10^9 of them. -/
namespace Go.Proofs.YtohokfbohdoijaaGreatDoor.Limb
theorem head_bits {V k l0 l1 l2 : Nat} (e0 : l0 = V / 4294967296 ^ (k / 32) % 4294967296) (e1 : l1 = V / 4294967296 ^ (k / 32 + 1) % 4294967296) (e2 : l2 = V / 4294967296 ^ (k / 32 + 2) % 4294967296) :
 (l0 ||| l1 * 4294967296) / 2 ^ (k % 32) ||| (l2 * 2 ^ (64 - k % 32) % 18446744073709551616) = V / 2 ^ k % 18446744073709551616 := by
 refine Nat.eq_of_testBit_eq fun i => ?_
 have hr : k % 32 < 32 := Nat.mod_lt _ (by decide)
 have hk : k = 32 * (k / 32) + k % 32 := by omega
 rw [e0, e1, e2, pow32, pow32, pow32, show (18446744073709551616 : Nat) = 2 ^ 64 from rfl, show (4294967296 : Nat) = 2 ^ 32 from rfl]
 simp only [Nat.testBit_or, Nat.testBit_div_two_pow, Nat.testBit_mod_two_pow, Nat.testBit_mul_two_pow]
 generalize k % 32 = r at *
 generalize k / 32 = q at *
 subst hk
 by_cases c1 : i + r < 32
 · have e : i + r + 32 * q = i + (32 * q + r) := by omega
   have d1 : i < 64 := by omega
   have d2 : ¬ 64 - r ≤ i := by omega
   have d3 : ¬ 32 ≤ i + r := by omega
   simp [c1, d1, d2, d3, e]
 · by_cases c2 : i + r < 64
   · have e : i + r - 32 + 32 * (q + 1) = i + (32 * q + r) := by omega
     have d1 : i < 64 := by omega
     have d2 : ¬ 64 - r ≤ i := by omega
     have d3 : 32 ≤ i + r := by omega
     have d4 : i + r - 32 < 32 := by omega
     simp [c1, d1, d2, d3, d4, e]
   · by_cases c3 : i < 64
     · have e : i - (64 - r) + 32 * (q + 2) = i + (32 * q + r) := by omega
       have d2 : 64 - r ≤ i := by omega
       have d4 : ¬ i + r - 32 < 32 := by omega
       have d5 : i - (64 - r) < 32 := by omega
       simp [c1, c3, d2, d4, d5, e]
     · simp [c3]
       omega
end Go.Proofs.YtohokfbohdoijaaGreatDoor.Limb
namespace Go.Proofs.YtohokfbohdoijaaGreatDoor
open Go.RowKit Limb
set_option linter.unusedVariables false
set_option maxHeartbeats 400000 in
theorem limbAt_any (A : Option Addr) (n c : Nat) (xs : List Nat) (w : World) (hx : IsN w A n xs) (hm : n ≤ 1000000000) (k : Nat) (I : Int) (hI : I = k) (hk : k ≤ 100000000000) :
 Calls Tryz.prog 165 #[.slice A n c, .int .i64 I] w fun e w' => e = .returned (.int .u64 ((lim xs k : Nat) : Int)) ∧ w = w' := by
 subst hI
 by_cases h : k < n
 · obtain ⟨b, o, rfl, hb, hc⟩ := hx.2.2 (by omega)
   have h1 := hc k h
   have h2 := lim_lt hx.small k
   go_enter Tryz.func165, Tryz.ntmps165
   go_wp2
   go_ret
   exact ⟨rfl, rfl⟩
 · have h1 : lim xs k = 0 := lim_of_ge (by rw [hx.len]; omega)
   have H1 := Lib.hid h1
   clear h1
   go_enter Tryz.func165, Tryz.ntmps165
   go_wp2
   go_ret
   exact ⟨ret_int (by rw [H1.out]; rfl), rfl⟩
theorem limbAt_q {A : Option Addr} {n c : Nat} {xs : List Nat} {w : World} (hx : IsN w A n xs) (hm : n ≤ 1000000000) (k : Nat) (I : Int) (hI : I = k) (hk : k ≤ 100000000000) (nd : Nat) :
 Calls Tryz.prog 165 #[.slice A n c, .int .i64 I] (w.drewN nd) fun e w' => e = .returned (.int .u64 ((lim xs k : Nat) : Int)) ∧ ∃ m, w' = w.drewN m :=
 (limbAt_any A n c xs (w.drewN nd) (hx.below (below_drewN (Below.refl _ _) nd)) hm k I hI hk).mono fun _ _ ⟨h1, h2⟩ => ⟨h1, nd, h2.symm⟩
set_option maxHeartbeats 1000000 in
theorem head_any (A : Option Addr) (n c : Nat) (xs : List Nat) (w : World) (hx : IsN w A n xs) (hm : n ≤ 1000000000) (k : Nat) (I : Int) (hI : I = k) (hk : k ≤ 1000000000000) (v : Nat) (hv : val xs / 2 ^ k % 18446744073709551616 = v) :
 Calls Tryz.prog 128 #[.slice A n c, .int .i64 I] w fun e w' => e = .returned (.int .u64 (v : Int)) ∧ ∃ nd, w' = w.drewN nd := by
 subst hI
 obtain ⟨q, hq⟩ : ∃ q, q = k / 32 := ⟨_, rfl⟩
 obtain ⟨r, hr⟩ : ∃ r, r = k % 32 := ⟨_, rfl⟩
 have eq1 : (k : Int) / 32 = (q : Int) := by omega
 have er1 : (k : Int) % 32 = (r : Int) := by omega
 have hr32 : r < 32 := by omega
 have hq3 : q ≤ 90000000000 := by omega
 have l0 := lim_lt hx.small q
 have l1 := lim_lt hx.small (q + 1)
 have l2 := lim_lt hx.small (q + 2)
 have hh := head_bits (V := val xs) (k := k) (lim_eq_div xs hx.small _).symm (lim_eq_div xs hx.small _).symm (lim_eq_div xs hx.small _).symm
 rw [← hq, ← hr, hv] at hh
 have Hh := Lib.hid hh
 clear hh hv hq hr
 go_enter Tryz.func128, Tryz.ntmps128
 go_wp2_with fail
 refine (limbAt_any A n c xs w hx hm q _ rfl (by omega)).mono ?_
 rintro e w1 ⟨rfl, rfl⟩
 go_wp2_with fail
 refine (limbAt_any A n c xs w hx hm (q + 1) _ (by omega) (by omega)).mono ?_
 rintro e w1 ⟨rfl, rfl⟩
 obtain ⟨low, hlow⟩ : ∃ x, x = lim xs q ||| lim xs (q + 1) * 4294967296 := ⟨_, rfl⟩
 have hor : bits BinOp.or IntKind.u64 ((lim xs q : Nat) : Int) (((lim xs (q + 1) : Nat) : Int) * 4294967296) = (low : Int) := by
  have := u64_or_nat (lim xs q) (lim xs (q + 1) * 4294967296) (by omega) (by omega)
  rw [hlow, ← this]; rfl
 have hlow2 : low < 18446744073709551616 := by
  rw [hlow]
  exact Nat.or_lt_two_pow (n := 64) (by omega) (by omega)
 rw [← hlow] at Hh
 clear hlow
 have ew : IntKind.i64.wrap ((q : Int) + 2) = (q : Int) + 2 := IntWalk.i64_in _ (by omega)
 have e2 : (q : Int) + 2 = ((q + 2 : Nat) : Int) := by omega
 have E2 := Lib.hid e2
 have ew2 : IntKind.i64.wrap (64 - (r : Int)) = 64 - (r : Int) := IntWalk.i64_in _ (by omega)
 clear e2
 go_wp2
 go_quiet ((go_at_call 165; exact limbAt_q hx hm (q + 2) _ E2.out (by omega) _))
 go_wp2
 have Hor : RowKit.Hid (bits BinOp.or IntKind.u64 ((low : Int) / 2 ^ r) (IntKind.u64.wrap (((lim xs (q + 2) : Nat) : Int) * 2 ^ (64 - r))) = (v : Int)) := by
  show _ = _
  have a1 : (low : Int) / 2 ^ r = ((low / 2 ^ r : Nat) : Int) := by rw [Int.natCast_ediv, Int.natCast_pow]; rfl
  have a2 : IntKind.u64.wrap (((lim xs (q + 2) : Nat) : Int) * 2 ^ (64 - r)) = ((lim xs (q + 2) * 2 ^ (64 - r) % 18446744073709551616 : Nat) : Int) := by
   rw [IntKind.wrap_u64, Int.natCast_emod, Int.natCast_mul, Int.natCast_pow]; rfl
  rw [a1, a2, u64_or_nat _ _ (Nat.lt_of_le_of_lt (Nat.div_le_self _ _) hlow2) (Nat.mod_lt _ (by decide)), Hh.out]
 go_ret
 exact ⟨ret_int Hor.out, _, rfl⟩
set_option maxHeartbeats 1000000 in
theorem gcdSmall_any (x y : Nat) (X Y : Int) (hX : X = x) (hY : Y = y) (w : World) (hx : x < 18446744073709551616) (hy : y < 18446744073709551616) (g : Nat) (hg : gcdN x y = g) :
 Calls Tryz.prog 127 #[.int .u64 X, .int .u64 Y] w fun e w' => e = .returned (.int .u64 (g : Int)) ∧ Below w.heap.size w w' := by
 subst hX hY
 have Hg := Lib.hid hg
 have Hb := Lib.hid (Below.refl w.heap.size w)
 clear hg
 go_enter Tryz.func127, Tryz.ntmps127
 go_wp2
 go_loopw [0, 1] (fun a b wr => ∃ (x y : Nat), a = .int .u64 (x : Int) ∧ b = .int .u64 (y : Int) ∧ x < 18446744073709551616 ∧ y < 18446744073709551616 ∧ RowKit.Hid (gcdN x y = g) ∧ RowKit.Hid (Below w.heap.size w wr)) (fun _ b _ => (intOf b).toNat)
 case atStart => exact ⟨x, y, rfl, rfl, hx, hy, Hg, Hb⟩
 case round =>
  clear hx hy Hg Hb
  obtain ⟨x, y, rfl, rfl, hx, hy, Hg, Hb⟩ := hrel
  by_cases h0 : y = 0
  · subst h0
    have He := Lib.hid (gcdN_end Hg.out)
    go_wp2
    go_ret
    exact ⟨ret_int (by rw [He.out]), Hb.out⟩
  · have hne : ((y : Int) == 0) = false := by simp; omega
    have hne2 : ((y : Int) != 0) = true := by simp; omega
    obtain ⟨m, hm⟩ : ∃ m, m = x % y := ⟨_, rfl⟩
    have hml : m < y := by rw [hm]; exact Nat.mod_lt _ (by omega)
    have em : (x : Int) % (y : Int) = (m : Int) := by rw [hm]; simp
    have Hg2 : RowKit.Hid (gcdN y m = g) := by show _ = _; rw [hm]; exact gcdN_step Hg.out
    have hy0 : 0 < y := by omega
    clear hm Hg h0
    go_wp2
    go_quiet (fail)
    have Hb2 := Lib.hid (below_drewN Hb.out nq)
    clear Hb
    go_wp2
    go_roundw
    case rel => exact ⟨y, m, rfl, by rw [em], hy, by omega, Hg2, Hb2⟩
    case measure => simp [intOf]; omega
end Go.Proofs.YtohokfbohdoijaaGreatDoor

/- What package quo's mix.of answers, as a contract over memory: the sum of multiples of two numbers, in its shortest limbs. Conditions: both read as limbs, the second one not longer, of at most 10^8 of them; the multipliers are below 2^31, one of them not above 0 and one not below; the sum is not below 0 and fits in the first one's limbs. -/
namespace Go.Proofs.YtohokfbohdoijaaGreatDoor.Limb
def OfInv (P Q : Int) (xs ys zs : List Nat) (k : Nat) (cy : Int) : Prop :=
 zs.length = xs.length ∧ ((val (zs.take k) : Nat) : Int) + cy * ((4294967296 ^ k : Nat) : Int) = P * ((val (xs.take k) : Nat) : Int) + Q * ((val (ys.take k) : Nat) : Int)
theorem OfInv.start (P Q : Int) (xs ys zs : List Nat) (h : zs.length = xs.length) : OfInv P Q xs ys zs 0 0 := ⟨h, by simp [val]⟩
theorem of_step {Z cy E P Q X Y x y lo c2 : Int} (h : Z + cy * E = P * X + Q * Y) (hs : cy + (P * x + Q * y) = lo + c2 * 4294967296) : Z + E * lo + c2 * (E * 4294967296) = P * (X + E * x) + Q * (Y + E * y) := by grind
theorem OfInv.step {P Q : Int} {xs ys zs : List Nat} {k lo : Nat} {cy c2 : Int} (h : OfInv P Q xs ys zs k cy) (hk : k < xs.length) (hs : cy + (P * ((lim xs k : Nat) : Int) + Q * ((lim ys k : Nat) : Int)) = (lo : Int) + c2 * 4294967296) :
 OfInv P Q xs ys (zs.set k lo) (k + 1) c2 := by
 obtain ⟨h1, h2⟩ := h
 refine ⟨by simpa using h1, ?_⟩
 rw [val_take_set (by omega), val_take_lim xs, val_take_lim ys, Nat.pow_succ]
 simp only [Int.natCast_add, Int.natCast_mul]
 exact of_step h2 hs
theorem OfInv.done {P Q : Int} {xs ys zs : List Nat} {k v : Nat} {cy : Int} (h : OfInv P Q xs ys zs k cy) (hk : k = xs.length) (hy : ys.length ≤ k) (hz : Small zs) (hv : P * ((val xs : Nat) : Int) + Q * ((val ys : Nat) : Int) = (v : Int)) (hv2 : v < 4294967296 ^ k) : val zs = v := by
 obtain ⟨h1, h2⟩ := h
 rw [List.take_of_length_le (by omega), List.take_of_length_le (by omega), List.take_of_length_le hy, hv] at h2
 have h3 := val_lt hz
 rw [h1, ← hk] at h3
 generalize 4294967296 ^ k = E at *
 have h4 : cy = 0 := by
  rcases Int.lt_trichotomy cy 0 with h | h | h
  · exfalso
    have : (cy + 1) * (E : Int) ≤ 0 := Int.mul_nonpos_of_nonpos_of_nonneg (by omega) (by omega)
    rw [Int.add_mul, Int.one_mul] at this
    omega
  · exact h
  · exfalso
    have : 0 ≤ (cy - 1) * (E : Int) := Int.mul_nonneg (by omega) (by omega)
    rw [Int.sub_mul, Int.one_mul] at this
    omega
 subst h4
 omega
def MixOk (P Q : Int) : Prop := -2147483648 < P ∧ P < 2147483648 ∧ -2147483648 < Q ∧ Q < 2147483648 ∧ ((0 ≤ P ∧ Q ≤ 0) ∨ (P ≤ 0 ∧ 0 ≤ Q))
theorem mul_bd {a x : Int} (hx0 : 0 ≤ x) (hx : x ≤ 4294967295) (ha : 0 ≤ a) : 0 ≤ a * x ∧ a * x ≤ a * 4294967295 := ⟨Int.mul_nonneg ha hx0, Int.mul_le_mul_of_nonneg_left hx ha⟩
theorem mul_bd' {a x : Int} (hx0 : 0 ≤ x) (hx : x ≤ 4294967295) (ha : a ≤ 0) : a * x ≤ 0 ∧ a * 4294967295 ≤ a * x := by
 have h1 := Int.mul_nonneg (show 0 ≤ -a by omega) hx0
 have h2 := Int.mul_le_mul_of_nonneg_left hx (show 0 ≤ -a by omega)
 rw [Int.neg_mul] at h1 h2
 rw [Int.neg_mul] at h2
 omega
theorem mix_bound {P Q : Int} (h : MixOk P Q) : ∃ lo hi : Int, -2147483648 < lo ∧ lo ≤ 0 ∧ 0 ≤ hi ∧ hi < 2147483648 ∧ ∀ x y : Int, 0 ≤ x → x ≤ 4294967295 → 0 ≤ y → y ≤ 4294967295 →
 lo * 4294967295 ≤ P * x + Q * y ∧ P * x + Q * y ≤ hi * 4294967295 ∧ -9223372036854775808 ≤ P * x ∧ P * x ≤ 9223372036854775807 ∧ -9223372036854775808 ≤ Q * y ∧ Q * y ≤ 9223372036854775807 := by
 obtain ⟨h1, h2, h3, h4, h5⟩ := h
 rcases h5 with ⟨h5, h6⟩ | ⟨h5, h6⟩
 · refine ⟨Q, P, h3, h6, h5, h2, fun x y a b c d => ?_⟩
   have e1 := mul_bd a b h5
   have e2 := mul_bd' c d h6
   omega
 · refine ⟨P, Q, h1, h5, h6, h4, fun x y a b c d => ?_⟩
   have e1 := mul_bd' a b h5
   have e2 := mul_bd c d h6
   omega
end Go.Proofs.YtohokfbohdoijaaGreatDoor.Limb
namespace Go.Proofs.YtohokfbohdoijaaGreatDoor
open Go.RowKit Limb
set_option linter.unusedVariables false
set_option maxHeartbeats 600000 in
theorem of_mix (P Q : Int) (A : Option Addr) (n c : Nat) (xs : List Nat) (A' : Option Addr) (n' c' : Nat) (ys : List Nat) (w : World) (hx : IsN w A n xs) (hy : IsN w A' n' ys) (hm : n ≤ 100000000) (hn : n' ≤ n) (hPQ : MixOk P Q)
 (v : Nat) (hv : P * ((val xs : Nat) : Int) + Q * ((val ys : Nat) : Int) = (v : Int)) (hv2 : v < 4294967296 ^ n) :
 Calls Tryz.prog 164 #[.agg #[.int .i64 P, .int .i64 Q], .slice A n c, .slice A' n' c'] w fun e w' => ∃ A2 n2 c2, e = .returned (.slice A2 n2 c2) ∧ OwnN w' w.heap.size A2 n2 c2 (limbs v) ∧ Below w.heap.size w w' := by
 obtain ⟨lo, hi, hlo1, hlo2, hhi1, hhi2, hbd⟩ := mix_bound hPQ
 have Hbd := Lib.hid hbd
 have Hv := Lib.hid hv
 have Hv2 := Lib.hid hv2
 obtain ⟨p1, p2, q1, q2, _⟩ := hPQ
 have hmk := run_made (n : Int) n rfl (by omega)
 have hbx := below_new w (.cells #[.int .i64 P, .int .i64 Q] 200)
 have cP : (w.alloc (.cells #[.int .i64 P, .int .i64 Q] 200)).cell? ⟨w.heap.size, 0, none⟩ = some (.int .i64 P) := by
  rw [World.cell?_alloc_at _ _ _ _ rfl]; rfl
 have cQ : (w.alloc (.cells #[.int .i64 P, .int .i64 Q] 200)).cell? ⟨w.heap.size, 1, none⟩ = some (.int .i64 Q) := by
  rw [World.cell?_alloc_at _ _ _ _ rfl]; rfl
 have hx1 := hx.below hbx
 have hy1 := hy.below hbx
 have Hbx := Lib.hid hbx
 obtain ⟨w1, hw1⟩ : ∃ x, x = w.alloc (.cells #[.int .i64 P, .int .i64 Q] 200) := ⟨_, rfl⟩
 have hsz : w1.heap.size = w.heap.size + 1 := by rw [hw1]; simp
 have Hw1 := Lib.hid hw1
 rw [← hw1] at cP cQ hx1 hy1 Hbx
 have Hrow : RowKit.Hid (OwnN (w1.alloc (.cells (madeCells #[.int .u32 0] n) 84)) (w.heap.size + 1) (some ⟨w.heap.size + 1, 0, none⟩) n n (List.replicate n 0)) := by
  have h := own_made w1 n (by omega)
  rw [hsz] at h
  exact h
 have Hb1 : RowKit.Hid (Below (w.heap.size + 1) w1 (w1.alloc (.cells (madeCells #[.int .u32 0] n) 84))) := by
  have h := below_new w1 (.cells (madeCells #[.int .u32 0] n) 84)
  rw [hsz] at h
  exact h
 have Hsz := Lib.hid hsz
 have Hst := Lib.hid (OfInv.start P Q xs ys (List.replicate n 0) (by rw [List.length_replicate, hx1.len]))
 have Hxl := Lib.hid hx1.len
 have Hyl := Lib.hid hy1.len
 clear hbd hv hv2 hbx hx hy hsz hw1
 go_enter Tryz.func164, Tryz.ntmps164
 go_wp2
 rw [← Hw1.out]
 go_loopw [15, 8] (fun i cv wr => ∃ (k : Nat) (cy : Int) (zs : List Nat), k ≤ n ∧ i = .int .i64 (k : Int) ∧ cv = .int .i64 cy ∧ lo ≤ cy ∧ cy ≤ hi ∧ RowKit.Hid (OfInv P Q xs ys zs k cy) ∧ RowKit.Hid (OwnN wr (w.heap.size + 1) (some ⟨w.heap.size + 1, 0, none⟩) n n zs) ∧ RowKit.Hid (Below (w.heap.size + 1) w1 wr)) (fun i _ _ => n - (intOf i).toNat)
 case atStart => exact ⟨0, 0, _, Nat.zero_le _, rfl, rfl, hlo2, hhi1, Hst, Hrow, Hb1⟩
 case round =>
  clear Hst Hrow Hb1 hmk
  obtain ⟨k, cy, zs, hk, rfl, rfl, hc1, hc2, Hinv, Hrow, Hb⟩ := hrel
  by_cases hkn : k < n
  · have hb := Hb.out
    rw [← Hsz.out] at hb
    have hxk := hx1.below hb
    have hyk := hy1.below hb
    have dP : wr.cell? ⟨w.heap.size, 0, none⟩ = some (.int .i64 P) := (Hb.out.cell (p := ⟨w.heap.size, 0, none⟩) (Nat.lt_succ_self _)).trans cP
    have dQ : wr.cell? ⟨w.heap.size, 1, none⟩ = some (.int .i64 Q) := (Hb.out.cell (p := ⟨w.heap.size, 1, none⟩) (Nat.lt_succ_self _)).trans cQ
    have lx := lim_lt hxk.small k
    have ly := lim_lt hyk.small k
    have HA := Lib.hid (fun nd => limbAt_q (c := c) hxk (by omega) k _ rfl (by omega) nd)
    have HB := Lib.hid (fun nd => limbAt_q (c := c') hyk (by omega) k _ rfl (by omega) nd)
    obtain ⟨b1, b2, b3, b4, b5, b6⟩ := Hbd.out ((lim xs k : Nat) : Int) ((lim ys k : Nat) : Int) (by omega) (by omega) (by omega) (by omega)
    obtain ⟨px, hpx⟩ : ∃ x, x = P * ((lim xs k : Nat) : Int) := ⟨_, rfl⟩
    obtain ⟨qy, hqy⟩ : ∃ x, x = Q * ((lim ys k : Nat) : Int) := ⟨_, rfl⟩
    rw [← hpx, ← hqy] at b1 b2
    rw [← hpx] at b3 b4
    rw [← hqy] at b5 b6
    obtain ⟨l, hl⟩ : ∃ l : Nat, (l : Int) = (cy + (px + qy)) % 4294967296 := ⟨((cy + (px + qy)) % 4294967296).toNat, by omega⟩
    obtain ⟨c2, hc2'⟩ : ∃ c2 : Int, c2 = (cy + (px + qy)) / 4294967296 := ⟨_, rfl⟩
    have hl4 : l < 4294967296 := by omega
    have hs : cy + (px + qy) = (l : Int) + c2 * 4294967296 := by omega
    have hc3 : lo ≤ c2 := by omega
    have hc4 : c2 ≤ hi := by omega
    have Hst : RowKit.Hid (OfInv P Q xs ys (zs.set k l) (k + 1) c2) := Hinv.out.step (by rw [Hxl.out]; exact hkn) (by rw [← hpx, ← hqy]; exact hs)
    have w1' : IntKind.i64.wrap (P * ((lim xs k : Nat) : Int)) = px := by rw [← hpx]; exact IntWalk.i64_in _ (by omega)
    have w2' : IntKind.i64.wrap (Q * ((lim ys k : Nat) : Int)) = qy := by rw [← hqy]; exact IntWalk.i64_in _ (by omega)
    have w3' : IntKind.i64.wrap (px + qy) = px + qy := IntWalk.i64_in _ (by omega)
    have w4' : IntKind.i64.wrap (cy + (px + qy)) = cy + (px + qy) := IntWalk.i64_in _ (by omega)
    have w5' : IntKind.i64.wrap ((lim xs k : Nat) : Int) = ((lim xs k : Nat) : Int) := IntWalk.i64_in _ (by omega)
    have w6' : IntKind.i64.wrap ((lim ys k : Nat) : Int) = ((lim ys k : Nat) : Int) := IntWalk.i64_in _ (by omega)
    have es : (cy + (px + qy)) % 4294967296 = (l : Int) := hl.symm
    have eh : (cy + (px + qy)) / 4294967296 = c2 := hc2'.symm
    clear hb hxk hyk hpx hqy hl hc2' hs Hinv
    go_wp2
    go_quiet ((first | (go_at_call 165; with_reducible exact HA.out _) | (go_at_call 165; with_reducible exact HB.out _)))
    have Hrow2 : RowKit.Hid (OwnN (wr.drewN nq) (w.heap.size + 1) (some ⟨w.heap.size + 1, 0, none⟩) n n zs) := Hrow.out.below (below_drewN (Below.refl _ _) nq) (Nat.le_refl _)
    have Hb2 := Lib.hid (below_drewN Hb.out nq)
    clear Hrow Hb w1' w2' w3' w4' w5' w6' dP dQ HA HB
    generalize wr.drewN nq = w2 at *
    have c0 := Hrow2.out.cell (k := k) (by omega)
    have f0 := Hrow2.out.1.frozenAt k
    have Hset := Lib.hid (Hrow2.out.set k hl4)
    have Hb3 : RowKit.Hid (Below (w.heap.size + 1) w1 (w2.setCell ⟨w.heap.size + 1, k, none⟩ (.int .u32 (l : Int)))) := Hb2.out.setCell (by exact Nat.le_refl _) _
    clear Hrow2 Hb2
    go_wp2
    go_roundw
    case rel => exact ⟨k + 1, c2, zs.set k l, by omega, by go_num, rfl, hc3, hc4, Hst, Hset, Hb3⟩
    case measure => simp [intOf]; omega
  · obtain rfl : k = n := by omega
    have hz := Hrow.out.isN
    have hsm := Hrow.out.small
    have hval := Hinv.out.done Hxl.out.symm (by rw [Hyl.out]; exact hn) hsm Hv.out Hv2.out
    have Hval := Lib.hid hval
    clear hval
    go_wp2_with fail
    refine (trim_any _ k k zs wr hz (Nat.le_refl _) (by omega)).mono ?_
    rintro e w5 ⟨A5, n5, c5, rfl, how, hb5⟩
    have How : RowKit.Hid (OwnN w5 w.heap.size A5 n5 c5 (limbs v)) := by
     rw [trim_eq_limbs hsm, Hval.out] at how
     have hs := Hb.out.size
     exact how.mono (by have := Hsz.out; omega)
    have HW : RowKit.Hid (Below w.heap.size w w5) := by
     have hb := Hb.out
     rw [← Hsz.out] at hb
     exact below_two (below_two Hbx.out hb) hb5
    clear how hb5
    go_wp2
    go_ret
    exact ⟨_, _, _, rfl, How.out, HW.out⟩
end Go.Proofs.YtohokfbohdoijaaGreatDoor

/- Plain mathematics of divisions that are done on the heads of two numbers: multiples of both, as far as the heads make the quotients certain. No condition. -/
namespace Go.Proofs.YtohokfbohdoijaaGreatDoor.Limb
theorem square_bd {y t n : Int} (h1 : t ≤ y) (h2 : y * t ≤ n) (h3 : n < 4611686018427387904) (h0 : 0 ≤ y) : t < 2147483648 := by
 by_cases h : t < 2147483648
 · exact h
 · exfalso
   have h4 : 2147483648 * t ≤ y * t := Int.mul_le_mul_of_nonneg_right (by omega) (by omega)
   omega
theorem head_half {x0 y0 fa fb sa sb ta tb y z q : Int} (ha : 0 ≤ fa) (hb : fb ≤ 0) (hc : sa ≤ 0) (hd : 0 ≤ sb) (hq : 0 ≤ q) (e1 : ta = fa - q * sa) (e2 : tb = fb - q * sb)
 (r1 : z + ta < y + sa) (r2 : 0 ≤ z + tb) (i1 : y * (-tb) + z * sb = x0) (i2 : y * ta + z * (-sa) = y0) (hx : x0 < 4611686018427387904) (hy : y0 < 4611686018427387904) :
 0 ≤ ta ∧ tb ≤ 0 ∧ 0 ≤ z ∧ z < y ∧ ta < 2147483648 ∧ -2147483648 < tb := by
 have p1 : 0 ≤ q * (-sa) := Int.mul_nonneg hq (by omega)
 have p2 : 0 ≤ q * sb := Int.mul_nonneg hq hd
 rw [Int.mul_neg] at p1
 have h1 : 0 ≤ ta := by omega
 have h2 : tb ≤ 0 := by omega
 have h3 : 0 ≤ z := by omega
 have h4 : z < y := by omega
 have p3 : 0 ≤ z * sb := Int.mul_nonneg h3 hd
 have p4 : 0 ≤ z * (-sa) := Int.mul_nonneg h3 (by omega)
 have h5 := square_bd (y := y) (t := ta) (n := y0) (by omega) (by omega) hy (by omega)
 have h6 := square_bd (y := y) (t := -tb) (n := x0) (by omega) (by omega) hx (by omega)
 exact ⟨h1, h2, h3, h4, h5, by omega⟩
structure SInv (x0 y0 a b fa fb sa sb x y : Int) : Prop where
 ex : x = fa * x0 + fb * y0
 ey : y = sa * x0 + sb * y0
 n1 : 0 ≤ x + fa
 n2 : 0 ≤ x + fb
 n3 : 0 ≤ y + sa
 n4 : 0 ≤ y + sb
 sg : (0 ≤ fa ∧ fb ≤ 0 ∧ sa ≤ 0 ∧ 0 ≤ sb ∧ fa * sb - fb * sa = 1) ∨ (fa ≤ 0 ∧ 0 ≤ fb ∧ 0 ≤ sa ∧ sb ≤ 0 ∧ fa * sb - fb * sa = -1)
 m1 : MixOk fa fb
 m2 : MixOk sa sb
 g : Int.gcd (fa * a + fb * b) (sa * a + sb * b) = Int.gcd a b
 st : (fa = 1 ∧ fb = 0 ∧ sa = 0 ∧ sb = 1) ∨ (y + sa < x + fa ∧ y + sb < x + fb ∧ fa * a + fb * b ≤ b)
 yp : 0 ≤ y
 xb : x < 4611686018427387904
 yx : y ≤ x
structure Heads (x0 y0 a b S : Int) : Prop where
 s : 0 < S
 a1 : x0 * S ≤ a
 a2 : a < (x0 + 1) * S
 b1 : y0 * S ≤ b
 b2 : b < (y0 + 1) * S
 x62 : x0 < 4611686018427387904
 yp : 0 ≤ y0
 yx : y0 ≤ x0
 xp : 0 ≤ x0
theorem SInv.start {x0 y0 a b S : Int} (h : Heads x0 y0 a b S) : SInv x0 y0 a b 1 0 0 1 x0 y0 := by
 have h1 := h.yp; have h2 := h.yx; have h3 := h.x62; have h4 := h.xp
 refine ⟨by omega, by omega, by omega, by omega, by omega, by omega, .inl (by omega), ?_, ?_, by simp, .inl (by omega), by omega, by omega, by omega⟩
 · unfold MixOk; omega
 · unfold MixOk; omega
theorem gcd_less (A B q : Int) : Int.gcd B (A - q * B) = Int.gcd A B := by
 rw [Int.gcd_comm A B, Int.sub_eq_add_neg, ← Int.neg_mul, Int.add_comm]
 exact Int.gcd_mul_right_add_right ..
theorem SInv.near {x0 y0 a b S fa fb sa sb x y : Int} (h : SInv x0 y0 a b fa fb sa sb x y) (hh : Heads x0 y0 a b S) : 0 ≤ sa * a + sb * b ∧ (y + sa < x + fa → y + sb < x + fb → sa * a + sb * b < fa * a + fb * b) := by
 obtain ⟨p, hp⟩ : ∃ p, p = a - x0 * S := ⟨_, rfl⟩
 obtain ⟨r, hr⟩ : ∃ r, r = b - y0 * S := ⟨_, rfl⟩
 have h1 := hh.a1; have h2 := hh.a2; have h3 := hh.b1; have h4 := hh.b2
 rw [Int.add_mul, Int.one_mul] at h2 h4
 have p0 : 0 ≤ p := by omega
 have pS : p ≤ S := by omega
 have r0 : 0 ≤ r := by omega
 have rS : r ≤ S := by omega
 have ea : a = x0 * S + p := by omega
 have eb : b = y0 * S + r := by omega
 have eA : fa * a + fb * b = x * S + fa * p + fb * r := by rw [ea, eb, h.ex]; grind
 have eB : sa * a + sb * b = y * S + sa * p + sb * r := by rw [ea, eb, h.ey]; grind
 rw [eA, eB]
 have hS := hh.s
 have n3 := Int.mul_nonneg h.n3 (Int.le_of_lt hS)
 have n4 := Int.mul_nonneg h.n4 (Int.le_of_lt hS)
 rw [Int.add_mul] at n3 n4
 rcases h.sg with ⟨s1, s2, s3, s4, _⟩ | ⟨s1, s2, s3, s4, _⟩
 · have a1 := Int.mul_nonneg s1 p0
   have a2 := Int.mul_le_mul_of_nonneg_left rS (show 0 ≤ -fb by omega)
   have a3 := Int.mul_le_mul_of_nonneg_left pS (show 0 ≤ -sa by omega)
   have a4 := Int.mul_nonneg (show 0 ≤ -sa by omega) p0
   have a5 := Int.mul_nonneg s4 r0
   have a6 := Int.mul_le_mul_of_nonneg_left rS s4
   rw [Int.neg_mul, Int.neg_mul] at a2 a3
   rw [Int.neg_mul] at a4
   refine ⟨by omega, fun _ l => ?_⟩
   have l2 := Int.mul_lt_mul_of_pos_right l hS
   rw [Int.add_mul, Int.add_mul] at l2
   omega
 · have a1 := Int.mul_nonneg s2 r0
   have a2 := Int.mul_le_mul_of_nonneg_left pS (show 0 ≤ -fa by omega)
   have a3 := Int.mul_le_mul_of_nonneg_left rS (show 0 ≤ -sb by omega)
   have a4 := Int.mul_nonneg (show 0 ≤ -sb by omega) r0
   have a5 := Int.mul_nonneg s3 p0
   have a6 := Int.mul_le_mul_of_nonneg_left pS s3
   rw [Int.neg_mul, Int.neg_mul] at a2 a3
   rw [Int.neg_mul] at a4
   refine ⟨by omega, fun l _ => ?_⟩
   have l2 := Int.mul_lt_mul_of_pos_right l hS
   rw [Int.add_mul, Int.add_mul] at l2
   omega
theorem det_step {fa fb sa sb q : Int} : sa * (fb - q * sb) - sb * (fa - q * sa) = -(fa * sb - fb * sa) := by grind
theorem SInv.step {x0 y0 a b S fa fb sa sb x y q : Int} (h : SInv x0 y0 a b fa fb sa sb x y) (hh : Heads x0 y0 a b S) (h1 : y + sa ≠ 0) (h2 : y + sb ≠ 0) (hq : q = (x + fa) / (y + sa)) (hq2 : q = (x + fb) / (y + sb)) :
 SInv x0 y0 a b sa sb (fa - q * sa) (fb - q * sb) y (x - q * y) ∧ x - q * y < y ∧ 0 ≤ q := by
 have p1 : 0 < y + sa := by have := h.n3; omega
 have p2 : 0 < y + sb := by have := h.n4; omega
 have q0 : 0 ≤ q := by rw [hq]; exact Int.ediv_nonneg h.n1 (Int.le_of_lt p1)
 have d1 := Int.emod_add_mul_ediv (x + fa) (y + sa)
 have d2 := Int.emod_nonneg (x + fa) (show y + sa ≠ 0 by omega)
 have d3 := Int.emod_lt_of_pos (x + fa) p1
 have d4 := Int.emod_add_mul_ediv (x + fb) (y + sb)
 have d5 := Int.emod_nonneg (x + fb) (show y + sb ≠ 0 by omega)
 have d6 := Int.emod_lt_of_pos (x + fb) p2
 rw [← hq] at d1
 rw [← hq2] at d4
 generalize (x + fa) % (y + sa) = ra at *
 generalize (x + fb) % (y + sb) = rb at *
 clear hq hq2
 have r1 : (x - q * y) + (fa - q * sa) = ra := by grind
 have r2 : (x - q * y) + (fb - q * sb) = rb := by grind
 have hx : x - q * y = (fa - q * sa) * x0 + (fb - q * sb) * y0 := by rw [h.ex, h.ey]; grind
 have hg : Int.gcd (sa * a + sb * b) ((fa - q * sa) * a + (fb - q * sb) * b) = Int.gcd a b := by
  rw [← h.g, ← gcd_less (fa * a + fb * b) (sa * a + sb * b) q]
  congr 1
  grind
 have hBb : sa * a + sb * b ≤ b := by
  rcases h.st with ⟨e1, e2, e3, e4⟩ | ⟨e1, e2, e3⟩
  · subst e3 e4; omega
  · have := (h.near hh).2 e1 e2; omega
 have hdet := @det_step fa fb sa sb q
 obtain ⟨ta, hta⟩ : ∃ t, t = fa - q * sa := ⟨_, rfl⟩
 obtain ⟨tb, htb⟩ : ∃ t, t = fb - q * sb := ⟨_, rfl⟩
 obtain ⟨z, hz⟩ : ∃ t, t = x - q * y := ⟨_, rfl⟩
 rw [← hta] at r1 hx hg hdet ⊢
 rw [← htb] at r2 hx hg hdet ⊢
 rw [← hz] at r1 r2 hx ⊢
 have hx62 := hh.x62
 have hyx := hh.yx
 have hxb := h.xb
 have hyx2 := h.yx
 have m2 := h.m2
 rcases h.sg with ⟨s1, s2, s3, s4, s5⟩ | ⟨s1, s2, s3, s4, s5⟩
 · have i1 : y * (-tb) + z * sb = x0 := by rw [h.ey, hx]; grind
   have i2 : y * ta + z * (-sa) = y0 := by rw [h.ey, hx]; grind
   obtain ⟨k1, k2, k3, k4, k5, k6⟩ := head_half s1 s2 s3 s4 q0 hta htb (by omega) (by omega) i1 i2 hx62 (by omega)
   refine ⟨⟨h.ey, hx, h.n3, h.n4, by omega, by omega, .inr ⟨s3, s4, k1, k2, by omega⟩, m2, ?_, hg, .inr ⟨by omega, by omega, hBb⟩, k3, by omega, by omega⟩, k4, q0⟩
   unfold MixOk; omega
 · have i1 : y * (-ta) + z * sa = y0 := by rw [h.ey, hx]; grind
   have i2 : y * tb + z * (-sb) = x0 := by rw [h.ey, hx]; grind
   obtain ⟨k1, k2, k3, k4, k5, k6⟩ := head_half s2 s1 s4 s3 q0 htb hta (by omega) (by omega) i1 i2 (by omega) hx62
   refine ⟨⟨h.ey, hx, h.n3, h.n4, by omega, by omega, .inl ⟨s3, s4, k2, k1, by omega⟩, m2, ?_, hg, .inr ⟨by omega, by omega, hBb⟩, k3, by omega, by omega⟩, k4, q0⟩
   unfold MixOk; omega
def SEnd (a b fa fb sa sb : Int) : Prop := fb ≠ 0 → 0 ≤ sa * a + sb * b ∧ sa * a + sb * b < fa * a + fb * b ∧ fa * a + fb * b ≤ b ∧ Int.gcd (fa * a + fb * b) (sa * a + sb * b) = Int.gcd a b ∧ MixOk fa fb ∧ MixOk sa sb
theorem SInv.done {x0 y0 a b S fa fb sa sb x y : Int} (h : SInv x0 y0 a b fa fb sa sb x y) (hh : Heads x0 y0 a b S) : SEnd a b fa fb sa sb := by
 intro hfb
 rcases h.st with ⟨e1, e2, e3, e4⟩ | ⟨e1, e2, e3⟩
 · exact absurd e2 hfb
 · obtain ⟨n1, n2⟩ := h.near hh
   exact ⟨n1, n2 e1 e2, e3, h.g, h.m1, h.m2⟩
end Go.Proofs.YtohokfbohdoijaaGreatDoor.Limb

/- What package quo's sure answers, as a contract over memory: two multiples of both heads, as far as these make the quotients certain. Conditions: the heads are those of two numbers, below 2^62, the second one not above the first. -/
namespace Go.Proofs.YtohokfbohdoijaaGreatDoor
open Go.RowKit Limb
set_option linter.unusedVariables false
def Pair (w : World) (g : Nat) (u v : Int) : Prop := w.heap[g]? = some (.cells #[Value.int .i64 u, Value.int .i64 v] 200 (0, 0))
theorem Pair.lt {w : World} {g : Nat} {u v : Int} (h : Pair w g u v) : g < w.heap.size := by
 rcases Nat.lt_or_ge g w.heap.size with hlt | hge
 · exact hlt
 · unfold Pair at h; rw [Array.getElem?_eq_none hge] at h; cases h
theorem Pair.below {w w' : World} {g : Nat} {u v : Int} (h : Pair w g u v) (hb : Below w.heap.size w w') : Pair w' g u v := (hb.block g h.lt).trans h
theorem Pair.c0 {w : World} {g : Nat} {u v : Int} (h : Pair w g u v) : w.cell? ⟨g, 0, none⟩ = some (.int .i64 u) := by unfold Pair at h; simp [World.cell?, h]
theorem Pair.c1 {w : World} {g : Nat} {u v : Int} (h : Pair w g u v) : w.cell? ⟨g, 1, none⟩ = some (.int .i64 v) := by unfold Pair at h; simp [World.cell?, h]
theorem Pair.f0 {w : World} {g : Nat} {u v : Int} (h : Pair w g u v) (k : Nat) : w.frozen? ⟨g, k, none⟩ = false := by unfold Pair at h; simp [World.frozen?, h]
theorem Pair.put {w : World} {g : Nat} {u v : Int} (h : Pair w g u v) (u' v' : Int) : Pair ((w.setCell ⟨g, 0, none⟩ (.int .i64 u')).setCell ⟨g, 1, none⟩ (.int .i64 v')) g u' v' := by
 unfold Pair at h ⊢
 simp [World.setCell, Array.getElem?_modify, h]
theorem Pair.other {w : World} {g k : Nat} {u v : Int} (h : Pair w g u v) (hk : k ≠ g) (x y : Value) : Pair ((w.setCell ⟨k, 0, none⟩ x).setCell ⟨k, 1, none⟩ y) g u v := by
 unfold Pair at h ⊢
 simp [World.setCell, Array.getElem?_modify, h, hk]
theorem pair_new (w : World) (u v : Int) : Pair (w.alloc (.cells #[Value.int .i64 u, Value.int .i64 v] 200)) w.heap.size u v := heap_alloc_new _ _
theorem mix_size : (Tryz.prog.info? 200).map (·.size) = some 2 := by kernel_rfl
theorem results_two {P : Program} {fn : Func} {p q : Tmp} {ty : TypeId} (h : fn.results = #[.cell p ty, .cell q ty]) (tmps : Array Value) (w : World) (g k : Nat) (t : TypeId) (cs ds : Array Value) (fr : Nat × Nat) (d : TypeDesc)
 (hp : tmps.getD p undef = .pointer (some ⟨g, 0, none⟩)) (hq : tmps.getD q undef = .pointer (some ⟨k, 0, none⟩)) (hg : w.heap[g]? = some (.cells cs t fr)) (hk : w.heap[k]? = some (.cells ds t fr))
 (hu : P.underlying ty = some d) (hd : (match d with | .struct _ | .array _ _ => true | _ => false) = true) (hi : (P.info? ty).map (·.size) = some cs.size) (hj : (P.info? ty).map (·.size) = some ds.size) :
 (results fn tmps).run P w = .ok (.tuple #[.agg cs, .agg ds]) w := by
 have hp' : tmps[p]?.getD undef = .pointer (some ⟨g, 0, none⟩) := by simpa using hp
 have hq' : tmps[q]?.getD undef = .pointer (some ⟨k, 0, none⟩) := by simpa using hq
 simp [results, h, hp', hq', asAddr, run_loadVar_row w g t ty cs fr d hg hu hd hi, run_loadVar_row w k t ty ds fr d hk hu hd hj]
theorem below_put2 {w wr : World} {g : Nat} (h : Below w.heap.size w wr) (hg : w.heap.size ≤ g) (u v : Value) : Below w.heap.size w ((wr.setCell ⟨g, 0, none⟩ u).setCell ⟨g, 1, none⟩ v) :=
 (h.setCell (by exact hg) _).setCell (by exact hg) _
set_option maxHeartbeats 1000000 in
theorem sure_any (x0 y0 a b S : Int) (hh : Heads x0 y0 a b S) (w : World) :
 Calls Tryz.prog 163 #[.int .i64 x0, .int .i64 y0] w fun e w' => ∃ fa fb sa sb : Int, e = .returned (.tuple #[.agg #[.int .i64 fa, .int .i64 fb], .agg #[.int .i64 sa, .int .i64 sb]]) ∧ SEnd a b fa fb sa sb ∧ Below w.heap.size w w' := by
 have h0 := SInv.start hh
 have H0 := Lib.hid h0
 have Hh := Lib.hid hh
 have P4 : RowKit.Hid (Pair ((w.alloc (.cells #[Value.int .i64 1, Value.int .i64 0] 200)).alloc (.cells #[Value.int .i64 0, Value.int .i64 1] 200)) w.heap.size 1 0) := (pair_new w 1 0).below (below_new _ _)
 have P5 : RowKit.Hid (Pair ((w.alloc (.cells #[Value.int .i64 1, Value.int .i64 0] 200)).alloc (.cells #[Value.int .i64 0, Value.int .i64 1] 200)) (w.heap.size + 1) 0 1) := by
  have h := pair_new (w.alloc (.cells #[Value.int .i64 1, Value.int .i64 0] 200)) 0 1
  have e : (w.alloc (.cells #[Value.int .i64 1, Value.int .i64 0] 200)).heap.size = w.heap.size + 1 := by simp
  rw [e] at h
  exact h
 have HB := Lib.hid (below_two (below_new w (.cells #[Value.int .i64 1, Value.int .i64 0] 200)) (below_new _ (.cells #[Value.int .i64 0, Value.int .i64 1] 200)))
 clear hh h0
 go_enter Tryz.func163, Tryz.ntmps163
 go_wp2
 go_loopw [0, 1] (fun xv yv wr => ∃ fa fb sa sb x y : Int, xv = .int .i64 x ∧ yv = .int .i64 y ∧ RowKit.Hid (SInv x0 y0 a b fa fb sa sb x y) ∧ RowKit.Hid (Pair wr w.heap.size fa fb) ∧ RowKit.Hid (Pair wr (w.heap.size + 1) sa sb) ∧ RowKit.Hid (Below w.heap.size w wr)) (fun _ yv _ => (intOf yv).toNat)
 case atStart => exact ⟨1, 0, 0, 1, x0, y0, rfl, rfl, H0, P4, P5, HB⟩
 case round =>
  clear H0 P4 P5 HB
  obtain ⟨fa, fb, sa, sb, x, y, rfl, rfl, Hi, P4, P5, HB⟩ := hrel
  obtain ⟨f1, f2, f3, f4, _⟩ := Hi.out.m1
  obtain ⟨s1, s2, s3, s4, _⟩ := Hi.out.m2
  have yp := Hi.out.yp
  have xb := Hi.out.xb
  have yx := Hi.out.yx
  have n1 := Hi.out.n1
  have n2 := Hi.out.n2
  have n3 := Hi.out.n3
  have n4 := Hi.out.n4
  have c40 := P4.out.c0
  have c41 := P4.out.c1
  have c50 := P5.out.c0
  have c51 := P5.out.c1
  by_cases hgo : y + sa ≠ 0 ∧ y + sb ≠ 0 ∧ (x + fa) / (y + sa) = (x + fb) / (y + sb)
  · obtain ⟨g1, g2, g3⟩ := hgo
    obtain ⟨q, hq⟩ : ∃ q, q = (x + fa) / (y + sa) := ⟨_, rfl⟩
    obtain ⟨hst, hlt, q0⟩ := Hi.out.step Hh.out g1 g2 hq (hq.trans g3)
    have d1 : ((y + sa) != 0) = true := by simpa using g1
    have d2 : ((y + sb) != 0) = true := by simpa using g2
    have d3 : ((y + sa) == 0) = false := by simpa using g1
    have d4 : ((y + sb) == 0) = false := by simpa using g2
    have eq1 : (x + fa) / (y + sa) = q := hq.symm
    have eq2 : (x + fb) / (y + sb) = q := by rw [← g3]; exact hq.symm
    obtain ⟨qa, hqa⟩ : ∃ t, t = q * sa := ⟨_, rfl⟩
    obtain ⟨qb, hqb⟩ : ∃ t, t = q * sb := ⟨_, rfl⟩
    obtain ⟨qy, hqy⟩ : ∃ t, t = q * y := ⟨_, rfl⟩
    rw [← hqa, ← hqb, ← hqy] at hst
    rw [← hqy] at hlt
    obtain ⟨t1, t2, t3, t4, _⟩ := hst.m2
    have z0 := hst.yp
    have p1 : 0 < y + sa := by omega
    have p2 : 0 < y + sb := by omega
    have q62 : q ≤ 4611686020574871552 := by
     rw [hq]
     exact Int.le_trans (Int.ediv_le_self _ n1) (by omega)
    have k1 : RowKit.wrap64 ((x + fa).tdiv (y + sa)) = q := by rw [Int.tdiv_eq_ediv_of_nonneg n1, eq1]; exact IntWalk.wrap64_in _ (by omega)
    have k2 : RowKit.wrap64 ((x + fb).tdiv (y + sb)) = q := by rw [Int.tdiv_eq_ediv_of_nonneg n2, eq2]; exact IntWalk.wrap64_in _ (by omega)
    have k3 : RowKit.wrap64 (q * y) = qy := by rw [← hqy]; exact IntWalk.wrap64_in _ (by omega)
    have w1' : IntKind.i64.wrap (q * sa) = qa := by rw [← hqa]; exact IntWalk.i64_in _ (by omega)
    have w2' : IntKind.i64.wrap (q * sb) = qb := by rw [← hqb]; exact IntWalk.i64_in _ (by omega)
    have w3' : IntKind.i64.wrap (fa - qa) = fa - qa := IntWalk.i64_in _ (by omega)
    have w4' : IntKind.i64.wrap (fb - qb) = fb - qb := IntWalk.i64_in _ (by omega)
    have Hst := Lib.hid hst
    clear hst hq g1 g2 g3 hqa hqb hqy Hi
    go_wp2
    rw [eq1, eq2]
    clear eq1 eq2 k1 k2
    have r40 : wr.drew.cell? ⟨w.heap.size, 0, none⟩ = some (.int .i64 fa) := c40
    have r41 : wr.drew.cell? ⟨w.heap.size, 1, none⟩ = some (.int .i64 fb) := c41
    have r50 : wr.drew.cell? ⟨w.heap.size + 1, 0, none⟩ = some (.int .i64 sa) := c50
    have r51 : wr.drew.cell? ⟨w.heap.size + 1, 1, none⟩ = some (.int .i64 sb) := c51
    have z40 := P4.out.f0 0
    have z41 := P4.out.f0 1
    have z50 := P5.out.f0 0
    have z51 := P5.out.f0 1
    go_region
    have Q4 := Lib.hid ((P4.out.put sa sb).other (k := w.heap.size + 1) (by omega) (.int .i64 (fa - qa)) (.int .i64 (fb - qb)))
    have Q5 := Lib.hid ((P5.out.other (k := w.heap.size) (by omega) (.int .i64 sa) (.int .i64 sb)).put (fa - qa) (fb - qb))
    have QB := Lib.hid (below_put2 (below_put2 HB.out (Nat.le_refl _) (.int .i64 sa) (.int .i64 sb)) (Nat.le_succ _) (.int .i64 (fa - qa)) (.int .i64 (fb - qb)))
    clear r40 r41 r50 r51 z40 z41 z50 z51 c40 c41 c50 c51 P4 P5 HB w1' w2' w3' w4' d1 d2 d3 d4
    generalize ((wr.setCell ⟨w.heap.size, 0, none⟩ (.int .i64 sa)).setCell ⟨w.heap.size, 1, none⟩ (.int .i64 sb)).setCell ⟨w.heap.size + 1, 0, none⟩ (.int .i64 (fa - qa)) = w5 at *
    generalize w5.setCell ⟨w.heap.size + 1, 1, none⟩ (.int .i64 (fb - qb)) = w6 at *
    have R4 : RowKit.Hid (Pair w6.drew w.heap.size sa sb) := Q4.out
    have R5 : RowKit.Hid (Pair w6.drew (w.heap.size + 1) (fa - qa) (fb - qb)) := Q5.out
    have RB : RowKit.Hid (Below w.heap.size w w6.drew) := QB.out.drew
    clear Q4 Q5 QB
    go_wp2
    go_roundw
    case rel => exact ⟨sa, sb, fa - qa, fb - qb, y, x - qy, rfl, rfl, Hst, R4, R5, RB⟩
    case measure => simp [intOf]; omega
  · have Hend := Lib.hid (Hi.out.done Hh.out)
    have z40 := P4.out.f0 0
    have z41 := P4.out.f0 1
    have z50 := P5.out.f0 0
    have z51 := P5.out.f0 1
    have r40 : wr.drew.cell? ⟨w.heap.size, 0, none⟩ = some (.int .i64 fa) := c40
    have r41 : wr.drew.cell? ⟨w.heap.size, 1, none⟩ = some (.int .i64 fb) := c41
    have r50 : wr.drew.cell? ⟨w.heap.size + 1, 0, none⟩ = some (.int .i64 sa) := c50
    have r51 : wr.drew.cell? ⟨w.heap.size + 1, 1, none⟩ = some (.int .i64 sb) := c51
    by_cases g1 : y + sa = 0
    case' pos =>
     have hz : y + sa ≤ 0 := by omega
    case' neg =>
     by_cases g2 : y + sb = 0
     case' pos =>
      have hz : 0 < y + sa := by omega
     case' neg =>
      have p1 : 0 < y + sa := by omega
      have p2 : 0 < y + sb := by omega
      have hz : (x + fa) / (y + sa) ≠ (x + fb) / (y + sb) := fun h => hgo ⟨g1, g2, h⟩
    all_goals
     clear hgo Hi
     go_wp2
    all_goals
     go_region
     have Q4 := Lib.hid ((P4.out.put fa fb).other (k := w.heap.size + 1) (by omega) (.int .i64 sa) (.int .i64 sb))
     have Q5 := Lib.hid ((P5.out.other (k := w.heap.size) (by omega) (.int .i64 fa) (.int .i64 fb)).put sa sb)
     have QB := Lib.hid (below_put2 (below_put2 HB.out (Nat.le_refl _) (.int .i64 fa) (.int .i64 fb)) (Nat.le_succ _) (.int .i64 sa) (.int .i64 sb))
     go_wp2
     refine bodyPost_ret (results_two rfl _ _ w.heap.size (w.heap.size + 1) 200 #[Value.int .i64 fa, Value.int .i64 fb] #[Value.int .i64 sa, Value.int .i64 sb] (0, 0) _ rfl rfl Q4.out Q5.out Tryz.underlying200 rfl mix_size mix_size) rfl ?_
     exact ⟨fa, fb, sa, sb, rfl, Hend.out, QB.out.drew⟩
end Go.Proofs.YtohokfbohdoijaaGreatDoor

/- What package quo's nearer answers, as a contract over memory: two numbers further on in the divisions of two numbers by each other: the same greatest divisor, the second one less than it was. Conditions: both lists are the shortest ones, of at most 10^5 limbs; the first number has more than two limbs, the second one is not 0 and not above it. -/
namespace Go.Proofs.YtohokfbohdoijaaGreatDoor.Limb
theorem gcd_cast {a b x y : Nat} (h : Int.gcd (x : Int) (y : Int) = Int.gcd (a : Int) (b : Int)) : gcdN x y = gcdN a b := by
 unfold gcdN; simpa [Int.gcd_natCast_natCast] using h
theorem heads_of {a b k : Nat} (hk : k + 62 = blen a) (hba : b ≤ a) : Heads ((a / 2 ^ k : Nat) : Int) ((b / 2 ^ k : Nat) : Int) (a : Int) (b : Int) ((2 ^ k : Nat) : Int) := by
 have hS : 0 < 2 ^ k := Nat.two_pow_pos k
 have h1 := Nat.div_mul_le_self a (2 ^ k)
 have h2 := Nat.lt_mul_div_succ a hS
 have h3 := Nat.div_mul_le_self b (2 ^ k)
 have h4 := Nat.lt_mul_div_succ b hS
 have h5 : a / 2 ^ k < 4611686018427387904 := by
  rw [Nat.div_lt_iff_lt_mul hS]
  have := blen_lt a
  rw [← hk, Nat.add_comm, Nat.pow_add] at this
  exact this
 have h6 : b / 2 ^ k ≤ a / 2 ^ k := Nat.div_le_div_right hba
 rw [Nat.mul_comm] at h2 h4
 generalize a / 2 ^ k = x at *
 generalize b / 2 ^ k = y at *
 generalize 2 ^ k = S at *
 refine ⟨by omega, ?_, ?_, ?_, ?_, by omega, by omega, by omega, by omega⟩
 · have : ((x * S : Nat) : Int) ≤ (a : Int) := by omega
   simpa using this
 · have : (a : Int) < (((x + 1) * S : Nat) : Int) := by omega
   simpa using this
 · have : ((y * S : Nat) : Int) ≤ (b : Int) := by omega
   simpa using this
 · have : (b : Int) < (((y + 1) * S : Nat) : Int) := by omega
   simpa using this
theorem head_small {a b k : Nat} (hk : k + 62 = blen a) (hba : b ≤ a) : b / 2 ^ k % 18446744073709551616 = b / 2 ^ k := by
 have h5 : b / 2 ^ k < 4611686018427387904 := by
  rw [Nat.div_lt_iff_lt_mul (Nat.two_pow_pos k)]
  have := blen_lt a
  rw [← hk, Nat.add_comm, Nat.pow_add] at this
  exact Nat.lt_of_le_of_lt hba this
 exact Nat.mod_eq_of_lt (by omega)
theorem blen_long {a : Nat} (h : 2 < (limbs a).length) : 65 ≤ blen a := by
 have h0 : a ≠ 0 := by intro e; rw [e, limbs_zero] at h; simp at h
 have h1 := length_limbs_pred h0
 have h2 : 4294967296 ^ 2 ≤ 4294967296 ^ ((limbs a).length - 1) := Nat.pow_le_pow_right (by decide) (by omega)
 have h3 := blen_lt a
 have h4 : 2 ^ 64 < 2 ^ blen a := Nat.lt_of_le_of_lt (Nat.le_trans (by decide) (Nat.le_trans h2 h1)) h3
 have := (Nat.pow_lt_pow_iff_right (by decide)).1 h4
 omega
end Go.Proofs.YtohokfbohdoijaaGreatDoor.Limb
namespace Go.Proofs.YtohokfbohdoijaaGreatDoor
open Go.RowKit Limb
set_option linter.unusedVariables false
theorem of_c2 (P Q : Int) {A A' : Option Addr} {n c n' c' a b L L' : Nat} {w : World} (hx : NN w A n c (limbs a) a L) (hy : NN w A' n' c' (limbs b) b L') (h1 : L ≤ 100000) (hba : b ≤ a) (hPQ : MixOk P Q) (v : Nat) (hv : P * (a : Int) + Q * (b : Int) = (v : Int)) (hva : v ≤ a) :
 Calls Tryz.prog 164 #[.agg #[.int .i64 P, .int .i64 Q], .slice A n c, .slice A' n' c'] w fun e w' => ∃ A2 n2 c2, e = .returned (.slice A2 n2 c2) ∧ NN w' A2 n2 c2 (limbs v) v L ∧ Below w.heap.size w w' := by
 have hn : n' ≤ n := by rw [← hx.isN.len, ← hy.isN.len]; exact length_limbs_mono hba
 have hv2 : v < 4294967296 ^ n := by
  have h := val_lt hx.isN.small
  rw [hx.val, hx.isN.len] at h
  omega
 refine (of_mix P Q A n c (limbs a) A' n' c' (limbs b) w hx.isN hy.isN (by have := hx.le; omega) hn hPQ v (by rw [val_limbs, val_limbs]; exact hv) hv2).mono ?_
 rintro e w' ⟨A2, n2, c2, rfl, how, hb⟩
 exact ⟨A2, n2, c2, rfl, NN.own how (Nat.lt_of_le_of_lt hva (lt_pow hx)), hb⟩
set_option maxHeartbeats 1000000 in
theorem nearer_c {A A' : Option Addr} {n c n' c' a b L : Nat} {w : World} (hx : NN w A n c (limbs a) a L) (hy : NN w A' n' c' (limbs b) b L) (h1 : L ≤ 100000) (h3 : 2 < n) (hb : b ≠ 0) (hba : b ≤ a) :
 Calls Tryz.prog 126 #[.slice A n c, .slice A' n' c'] w fun e w' => ∃ x y A1 n1 c1 A2 n2 c2, e = .returned (.tuple #[.slice A1 n1 c1, .slice A2 n2 c2]) ∧ NN w' A1 n1 c1 (limbs x) x L ∧ NN w' A2 n2 c2 (limbs y) y L ∧
  RowKit.Hid (y < b ∧ y ≤ x ∧ gcdN x y = gcdN a b) ∧ Below w.heap.size w w' := by
 have hbl : 65 ≤ blen a := blen_long (by rw [hx.isN.len]; exact h3)
 have hb32 := blen_NN hx
 obtain ⟨k, hk⟩ : ∃ k, k + 62 = blen a := ⟨blen a - 62, by omega⟩
 have hH := heads_of hk hba
 have hs1 := head_small hk (Nat.le_refl a)
 have hs2 := head_small hk hba
 obtain ⟨x0, hx0⟩ : ∃ x, x = a / 2 ^ k := ⟨_, rfl⟩
 obtain ⟨y0, hy0⟩ : ∃ x, x = b / 2 ^ k := ⟨_, rfl⟩
 rw [← hx0] at hH
 rw [← hy0] at hH
 replace hs1 := hs1.trans hx0.symm
 replace hs2 := hs2.trans hy0.symm
 have x62 : x0 < 4611686018427387904 := by have := hH.x62; omega
 have y62 : y0 < 4611686018427387904 := by have := hH.yx; omega
 obtain ⟨l, hl⟩ : ∃ l, l = blen a := ⟨_, rfl⟩
 have hlk : (l : Int) - 62 = (k : Int) := by omega
 have hkk : k ≤ 3200000 := by omega
 have Hl := Lib.hid hl.symm
 have HH := Lib.hid hH
 have Hs1 := Lib.hid hs1
 have Hs2 := Lib.hid hs2
 have Hb0 := Lib.hid hb
 have Hba := Lib.hid hba
 have hle1 := hx.le
 have hle2 := hy.le
 clear hk hH hs1 hs2 hx0 hy0 hl hbl hb hba hb32
 go_enter Tryz.func126, Tryz.ntmps126
 go_wp2_with fail
 refine (bits_c hx (by omega) (l : Int) (by rw [Hl.out])).mono ?_
 rintro e w1 ⟨rfl, rfl⟩
 go_wp2_with fail
 refine (head_any A n c (limbs a) w hx.isN (by omega) k _ (by omega) (by omega) x0 (by rw [val_limbs]; exact Hs1.out)).mono ?_
 rintro e w1 ⟨rfl, nd, rfl⟩
 have bn := below_drewN (Below.refl w.heap.size w) nd
 have hx1 := hx.below bn
 have hy1 := hy.below bn
 have bw := bn
 clear bn hx hy
 generalize w.drewN nd = w1 at *
 go_wp2_with fail
 refine (head_any A' n' c' (limbs b) w1 hy1.isN (by omega) k _ (by omega) (by omega) y0 (by rw [val_limbs]; exact Hs2.out)).mono ?_
 rintro e w2 ⟨rfl, nd, rfl⟩
 have bn := below_drewN (Below.refl w1.heap.size w1) nd
 have hx2 := hx1.below bn
 have hy2 := hy1.below bn
 replace bw := below_two bw bn
 clear bn hx1 hy1
 generalize w1.drewN nd = w2 at *
 go_wp2_with fail
 refine (sure_any (x0 : Int) (y0 : Int) (a : Int) (b : Int) _ HH.out w2).mono ?_
 rintro e w3 ⟨fa, fb, sa, sb, rfl, hE, bn⟩
 have HE := Lib.hid hE
 have hx3 := hx2.below bn
 have hy3 := hy2.below bn
 replace bw := below_two bw bn
 clear hE bn hx2 hy2
 have P7 : RowKit.Hid (Pair ((w3.alloc (.cells #[Value.int .i64 fa, Value.int .i64 fb] 200)).alloc (.cells #[Value.int .i64 sa, Value.int .i64 sb] 200)) w3.heap.size fa fb) := (pair_new w3 fa fb).below (below_new _ _)
 have P8 : RowKit.Hid (Pair ((w3.alloc (.cells #[Value.int .i64 fa, Value.int .i64 fb] 200)).alloc (.cells #[Value.int .i64 sa, Value.int .i64 sb] 200)) (w3.heap.size + 1) sa sb) := by
  have h := pair_new (w3.alloc (.cells #[Value.int .i64 fa, Value.int .i64 fb] 200)) sa sb
  have e : (w3.alloc (.cells #[Value.int .i64 fa, Value.int .i64 fb] 200)).heap.size = w3.heap.size + 1 := by simp
  rw [e] at h
  exact h
 have bn := below_two (below_new w3 (.cells #[Value.int .i64 fa, Value.int .i64 fb] 200)) (below_new _ (.cells #[Value.int .i64 sa, Value.int .i64 sb] 200))
 have hx4 := hx3.below bn
 have hy4 := hy3.below bn
 replace bw := below_two bw bn
 clear bn hx3 hy3
 by_cases hfb : fb = 0
 · subst hfb
   have c71 := P7.out.c1
   clear P7 P8
   go_wp2_with fail
   refine (quoRem_yes hx4 hy4 h1 h1 Hb0.out).mono ?_
   rintro e w5 ⟨A5, n5, c5, A6, n6, c6, rfl, hq, hr, bn⟩
   have HX := Lib.hid (hy4.below bn)
   have HY := Lib.hid hr
   have HW := Lib.hid (below_two bw bn)
   have HP : RowKit.Hid (a % b < b ∧ a % b ≤ b ∧ gcdN b (a % b) = gcdN a b) := ⟨Nat.mod_lt _ (Nat.pos_of_ne_zero Hb0.out), Nat.le_of_lt (Nat.mod_lt _ (Nat.pos_of_ne_zero Hb0.out)), gcdN_step rfl⟩
   clear hq hr bn bw hx4 hy4 c71
   go_wp2
   go_ret2
   exact ⟨b, a % b, _, _, _, _, _, _, rfl, HX.out, HY.out, HP, HW.out⟩
 · have hf1 : (fb != 0) = true := by simp [hfb]
   obtain ⟨v1, v2, v3, v4, v5, v6⟩ := HE.out hfb
   obtain ⟨x, hx⟩ := Int.eq_ofNat_of_zero_le (show 0 ≤ fa * (a : Int) + fb * (b : Int) by omega)
   obtain ⟨y, hy⟩ := Int.eq_ofNat_of_zero_le v1
   rw [hx, hy] at v4
   have HP : RowKit.Hid (y < b ∧ y ≤ x ∧ gcdN x y = gcdN a b) := ⟨by omega, by omega, gcd_cast v4⟩
   have hxa : x ≤ a := by have := Hba.out; omega
   have hya : y ≤ a := by have := Hba.out; omega
   have c70 := P7.out.c0
   have c71 := P7.out.c1
   have c80 := P8.out.c0
   have c81 := P8.out.c1
   have l7 := P7.out.lt
   have l8 := P8.out.lt
   have Hx := Lib.hid hx
   have Hy := Lib.hid hy
   have HX4 := Lib.hid hx4
   have HY4 := Lib.hid hy4
   have HW4 := Lib.hid bw
   clear hx hy v1 v2 v3 v4 P7 P8 HE hx4 hy4 bw
   go_wp2
   generalize (w3.alloc (.cells #[Value.int .i64 fa, Value.int .i64 fb] 200)).alloc (.cells #[Value.int .i64 sa, Value.int .i64 sb] 200) = w4 at *
   obtain ⟨g7, hg7⟩ : ∃ g, g = w3.heap.size := ⟨_, rfl⟩
   rw [← hg7] at c70 c71 c80 c81 l7 l8 ⊢
   clear hg7
   have Hc : RowKit.Hid (∀ wx, Below w4.heap.size w4 wx → wx.cell? ⟨g7, 0, none⟩ = some (.int .i64 fa) ∧ wx.cell? ⟨g7, 1, none⟩ = some (.int .i64 fb) ∧ wx.cell? ⟨g7 + 1, 0, none⟩ = some (.int .i64 sa) ∧ wx.cell? ⟨g7 + 1, 1, none⟩ = some (.int .i64 sb)) := fun wx hb =>
    ⟨(hb.cell (p := ⟨g7, 0, none⟩) l7).trans c70, (hb.cell (p := ⟨g7, 1, none⟩) l7).trans c71, (hb.cell (p := ⟨g7 + 1, 0, none⟩) l8).trans c80, (hb.cell (p := ⟨g7 + 1, 1, none⟩) l8).trans c81⟩
   have KA : RowKit.Hid (∀ wx, Below w4.heap.size w4 wx → (wx.cell? ⟨g7, 0, none⟩ = some (.int .i64 fa) ∧ wx.cell? ⟨g7, 1, none⟩ = some (.int .i64 fb) ∧ wx.cell? ⟨g7 + 1, 0, none⟩ = some (.int .i64 sa) ∧ wx.cell? ⟨g7 + 1, 1, none⟩ = some (.int .i64 sb) ∧ Below w4.heap.size w4 wx)) := fun wx hb =>
    ⟨(Hc.out wx hb).1, (Hc.out wx hb).2.1, (Hc.out wx hb).2.2.1, (Hc.out wx hb).2.2.2, hb⟩
   have KS : RowKit.Hid (∀ wx w2, (wx.cell? ⟨g7, 0, none⟩ = some (.int .i64 fa) ∧ wx.cell? ⟨g7, 1, none⟩ = some (.int .i64 fb) ∧ wx.cell? ⟨g7 + 1, 0, none⟩ = some (.int .i64 sa) ∧ wx.cell? ⟨g7 + 1, 1, none⟩ = some (.int .i64 sb) ∧ Below w4.heap.size w4 wx) → Below wx.heap.size wx w2 →
    (w2.cell? ⟨g7, 0, none⟩ = some (.int .i64 fa) ∧ w2.cell? ⟨g7, 1, none⟩ = some (.int .i64 fb) ∧ w2.cell? ⟨g7 + 1, 0, none⟩ = some (.int .i64 sa) ∧ w2.cell? ⟨g7 + 1, 1, none⟩ = some (.int .i64 sb) ∧ Below w4.heap.size w4 w2)) := fun wx w2 hS hb => KA.out w2 (below_two hS.2.2.2.2 hb)
   have K1 : RowKit.Hid (∀ wx, (wx.cell? ⟨g7, 0, none⟩ = some (.int .i64 fa) ∧ wx.cell? ⟨g7, 1, none⟩ = some (.int .i64 fb) ∧ wx.cell? ⟨g7 + 1, 0, none⟩ = some (.int .i64 sa) ∧ wx.cell? ⟨g7 + 1, 1, none⟩ = some (.int .i64 sb) ∧ Below w4.heap.size w4 wx) →
    Calls Tryz.prog 164 #[.agg #[.int .i64 fa, .int .i64 fb], .slice A n c, .slice A' n' c'] wx fun e w' => ∃ A2 n2 c2, e = .returned (.slice A2 n2 c2) ∧ NN w' A2 n2 c2 (limbs x) x L ∧ Below wx.heap.size wx w') := fun wx hS =>
    of_c2 fa fb (HX4.out.below hS.2.2.2.2) (HY4.out.below hS.2.2.2.2) h1 Hba.out v5 x Hx.out hxa
   have K2 : RowKit.Hid (∀ wx, (wx.cell? ⟨g7, 0, none⟩ = some (.int .i64 fa) ∧ wx.cell? ⟨g7, 1, none⟩ = some (.int .i64 fb) ∧ wx.cell? ⟨g7 + 1, 0, none⟩ = some (.int .i64 sa) ∧ wx.cell? ⟨g7 + 1, 1, none⟩ = some (.int .i64 sb) ∧ Below w4.heap.size w4 wx) →
    Calls Tryz.prog 164 #[.agg #[.int .i64 sa, .int .i64 sb], .slice A n c, .slice A' n' c'] wx fun e w' => ∃ A2 n2 c2, e = .returned (.slice A2 n2 c2) ∧ NN w' A2 n2 c2 (limbs y) y L ∧ Below wx.heap.size wx w') := fun wx hS =>
    of_c2 sa sb (HX4.out.below hS.2.2.2.2) (HY4.out.below hS.2.2.2.2) h1 Hba.out v6 y Hy.out hya
   have KF : RowKit.Hid (∀ wx, (wx.cell? ⟨g7, 0, none⟩ = some (.int .i64 fa) ∧ wx.cell? ⟨g7, 1, none⟩ = some (.int .i64 fb) ∧ wx.cell? ⟨g7 + 1, 0, none⟩ = some (.int .i64 sa) ∧ wx.cell? ⟨g7 + 1, 1, none⟩ = some (.int .i64 sb) ∧ Below w4.heap.size w4 wx) → Below w.heap.size w wx) := fun wx hS => below_two HW4.out hS.2.2.2.2
   clear c70 c71 c80 c81 v5 v6 l7 l8 HX4 HY4 HW4 Hc
   go_region_held3 (fun wx => wx.cell? ⟨g7, 0, none⟩ = some (.int .i64 fa) ∧ wx.cell? ⟨g7, 1, none⟩ = some (.int .i64 fb) ∧ wx.cell? ⟨g7 + 1, 0, none⟩ = some (.int .i64 sa) ∧ wx.cell? ⟨g7 + 1, 1, none⟩ = some (.int .i64 sb) ∧ Below w4.heap.size w4 wx) (first | assumption | exact KA.out _ ((Below.refl _ _).drew)) (first
    | (go_at_call 164; (with_reducible refine (K1.out _ (by assumption)).mono ?_); rintro e w2 ⟨A_x, n_x, c_x, rfl, h_x, bn_x⟩; have hS2 := KS.out _ _ (by assumption) bn_x)
    | (go_at_call 164; (with_reducible refine (K2.out _ (by assumption)).mono ?_); rintro e w2 ⟨A_y, n_y, c_y, rfl, h_y, bn_y⟩; have hS2 := KS.out _ _ (by assumption) bn_y))
   all_goals
    have HX := Lib.hid (h_x.below bn_y)
    have HY := Lib.hid h_y
    have HW := Lib.hid (KF.out _ hS2)
    clear h_x h_y bn_x bn_y
    go_wp2
    go_ret2
    exact ⟨x, y, _, _, _, _, _, _, rfl, HX.out, HY.out, HP, HW.out⟩
end Go.Proofs.YtohokfbohdoijaaGreatDoor

/- What package quo's Gcd answers, as a contract over memory: the greatest divisor in common, in its shortest limbs. Conditions: both lists read as limbs, of at most 40000 of them. -/
namespace Go.Proofs.YtohokfbohdoijaaGreatDoor
open Go.RowKit Limb
set_option linter.unusedVariables false
theorem gcdN_comm (a b : Nat) : gcdN a b = gcdN b a := Nat.gcd_comm a b
set_option maxHeartbeats 1000000 in
theorem quoGcd_c {A A' : Option Addr} {n c n' c' : Nat} {xs ys : List Nat} {a b L L' : Nat} {w : World} (hx : NN w A n c xs a L) (hy : NN w A' n' c' ys b L') (h1 : L ≤ 40000) (h2 : L' ≤ 40000) (K : Nat) (hK : gcdN a b < 4294967296 ^ K) :
 Calls Tryz.prog 95 #[.slice A n c, .slice A' n' c'] w fun e w' => ∃ A2 n2 c2, e = .returned (.slice A2 n2 c2) ∧ NN w' A2 n2 c2 (limbs (gcdN a b)) (gcdN a b) K ∧ Below w.heap.size w w' := by
 have r1 := Nat.lt_of_lt_of_le (lt_pow hx) (Nat.pow_le_pow_right (show 0 < 4294967296 by decide) (Nat.le_add_right L L'))
 have r2 := Nat.lt_of_lt_of_le (lt_pow hy) (Nat.pow_le_pow_right (show 0 < 4294967296 by decide) (Nat.le_add_left L' L))
 obtain ⟨g, hg⟩ : ∃ g, gcdN a b = g := ⟨_, rfl⟩
 obtain ⟨M, hM⟩ : ∃ M, M = L + L' := ⟨_, rfl⟩
 have hM2 : M ≤ 80000 := by omega
 rw [← hM] at r1 r2
 rw [hg] at hK ⊢
 have R1 := Lib.hid r1
 have R2 := Lib.hid r2
 have HK := Lib.hid hK
 have Hg := Lib.hid hg
 clear r1 r2 hM hK hg
 go_enter Tryz.func95, Tryz.ntmps95
 go_wp2_with fail
 refine (trim_c hx (by omega)).mono ?_
 rintro e w1 ⟨A1, n1, c1, rfl, hx1, bn⟩
 have hy1 := hy.below bn
 have bw := bn
 clear hx hy bn
 go_wp2_with fail
 refine (trim_c hy1 (by omega)).mono ?_
 rintro e w2 ⟨A2, n2, c2, rfl, hy2, bn⟩
 have hx2 := (hx1.below bn).relax R1.out
 replace hy2 := hy2.relax R2.out
 replace bw := below_two bw bn
 clear bn hx1 hy1 R1 R2
 by_cases hlt : a < b
 case' pos =>
  have Hv := Lib.hid (cmpI_lt hlt)
  have Hr : RowKit.Hid (a ≤ b ∧ gcdN b a = g) := ⟨Nat.le_of_lt hlt, by rw [gcdN_comm]; exact Hg.out⟩
  clear hlt Hg
  go_wp2_with fail
  refine (cmp_c hx2 hy2 (by omega) (by omega) (-1) Hv.out).mono ?_
  rintro e w3 ⟨rfl, bn⟩
  have HX := Lib.hid (hy2.below bn)
  have HY := Lib.hid (hx2.below bn)
 case' neg =>
  obtain ⟨v, hv, hv0⟩ : ∃ v, cmpI a b = v ∧ 0 ≤ v := by
   rcases Nat.lt_trichotomy a b with h | h | h
   · exact absurd h hlt
   · exact ⟨0, by rw [h]; exact cmpI_eq _, by omega⟩
   · exact ⟨1, cmpI_gt h, by omega⟩
  have Hv := Lib.hid hv
  have Hr : RowKit.Hid (b ≤ a ∧ gcdN a b = g) := ⟨Nat.le_of_not_lt hlt, Hg.out⟩
  clear hlt hv Hg
  go_wp2_with fail
  refine (cmp_c hx2 hy2 (by omega) (by omega) v Hv.out).mono ?_
  rintro e w3 ⟨rfl, bn⟩
  have HX := Lib.hid (hx2.below bn)
  have HY := Lib.hid (hy2.below bn)
 all_goals
  have HW := Lib.hid (below_two bw bn)
  clear hx2 hy2 bn bw Hv
  go_wp2
  go_loopw [0, 1] (fun xv yv wr => ∃ (x y : Nat) (A1 : Option Addr) (n1 c1 : Nat) (A2 : Option Addr) (n2 c2 : Nat), xv = .slice A1 n1 c1 ∧ yv = .slice A2 n2 c2 ∧ RowKit.Hid (y ≤ x ∧ gcdN x y = g) ∧ RowKit.Hid (NN wr A1 n1 c1 (limbs x) x M) ∧ RowKit.Hid (NN wr A2 n2 c2 (limbs y) y M) ∧ RowKit.Hid (Below w.heap.size w wr)) (fun _ yv wr => readN wr yv)
  case atStart => exact ⟨_, _, _, _, _, _, _, _, rfl, rfl, Hr, HX, HY, HW⟩
  case round =>
   clear Hr HX HY HW
   obtain ⟨x, y, A1, n1, c1, A2, n2, c2, rfl, rfl, Hr, HX, HY, HW⟩ := hrel
   by_cases h0 : y = 0
   · subst h0
     have hn0 : n2 = 0 := by have := HY.out.isN.len; rw [limbs_zero] at this; exact this.symm
     subst hn0
     have HG := Lib.hid (gcdN_end Hr.out.2)
     go_wp2
     go_ret
     exact ⟨A1, n1, c1, rfl, by rw [← HG.out]; exact HX.out.relax (by rw [HG.out]; exact HK.out), HW.out⟩
   · have hpos : 0 < n2 := by
      have h := HY.out.isN.len
      rw [limbs_pos h0] at h
      simp at h
      omega
     have H0 := Lib.hid h0
     have hx := HX.out
     have hy := HY.out
     clear h0
     by_cases hn : 2 < n1
     · go_wp2_with fail
       refine (nearer_c hx hy (by omega) hn H0.out Hr.out.1).mono ?_
       rintro e w4 ⟨x', y', A3, n3, c3, A4, n4, c4, rfl, h3, h4, Hp, bn⟩
       have HX2 := Lib.hid h3
       have HY2 := Lib.hid h4
       have HW2 := Lib.hid (below_two HW.out bn)
       have HR2 : RowKit.Hid (y' ≤ x' ∧ gcdN x' y' = g) := ⟨Hp.out.2.1, Hp.out.2.2.trans Hr.out.2⟩
       have HM : RowKit.Hid (readN w4 (.slice A4 n4 c4) < readN wr (.slice A2 n2 c2)) := by
        show _ < _
        rw [readN_eq h4.isN, readN_eq hy.isN, val_limbs, val_limbs]
        exact Hp.out.1
       clear hx hy h3 h4 bn HX HY HW Hr Hp
       go_wp2
       go_roundw
       case rel => exact ⟨x', y', A3, n3, c3, A4, n4, c4, rfl, rfl, HR2, HX2, HY2, HW2⟩
       case measure => exact HM.out
     · have hx64 : x < 18446744073709551616 := by
        have h := val_lt hx.isN.small
        rw [hx.val, hx.isN.len] at h
        have h2 : 4294967296 ^ n1 ≤ 4294967296 ^ 2 := Nat.pow_le_pow_right (by decide) (by omega)
        exact Nat.lt_of_lt_of_le h h2
       have hy64 : y < 18446744073709551616 := Nat.lt_of_le_of_lt Hr.out.1 hx64
       have Hx1 : RowKit.Hid (val (limbs x) / 2 ^ 0 % 18446744073709551616 = x) := by show _ = _; rw [val_limbs, Nat.pow_zero, Nat.div_one, Nat.mod_eq_of_lt hx64]
       have Hy1 : RowKit.Hid (val (limbs y) / 2 ^ 0 % 18446744073709551616 = y) := by show _ = _; rw [val_limbs, Nat.pow_zero, Nat.div_one, Nat.mod_eq_of_lt hy64]
       have hg64 : g < 18446744073709551616 := by
        rw [← Hr.out.2]
        exact Nat.lt_of_le_of_lt (Nat.gcd_le_right _ (Nat.pos_of_ne_zero H0.out)) hy64
       have hl1 := hx.le
       have hl2 := hy.le
       have hn2 : n1 ≤ 2 := by omega
       clear HX HY hn
       go_wp2_with fail
       refine (head_any A1 n1 c1 (limbs x) wr hx.isN (by omega) 0 _ rfl (by omega) x Hx1.out).mono ?_
       rintro e w4 ⟨rfl, nd, rfl⟩
       have bn := below_drewN (Below.refl wr.heap.size wr) nd
       have hy3 := hy.below bn
       have bw := below_two HW.out bn
       clear bn hx hy
       generalize wr.drewN nd = w4 at *
       go_wp2_with fail
       refine (head_any A2 n2 c2 (limbs y) w4 hy3.isN (by omega) 0 _ rfl (by omega) y Hy1.out).mono ?_
       rintro e w5 ⟨rfl, nd, rfl⟩
       have bn := below_drewN (Below.refl w4.heap.size w4) nd
       replace bw := below_two bw bn
       clear bn hy3
       generalize w4.drewN nd = w5 at *
       go_wp2_with fail
       refine (gcdSmall_any x y _ _ rfl rfl w5 hx64 hy64 g Hr.out.2).mono ?_
       rintro e w6 ⟨rfl, bn⟩
       replace bw := below_two bw bn
       clear bn
       go_wp2_with fail
       refine (of_c g _ rfl hg64 w6).mono ?_
       rintro e w7 ⟨A7, n7, c7, rfl, ho, bn⟩
       have HO := Lib.hid (ho.relax HK.out)
       replace bw := below_two bw bn
       clear bn ho
       go_wp2
       go_ret
       exact ⟨_, _, _, rfl, HO.out, bw⟩
end Go.Proofs.YtohokfbohdoijaaGreatDoor

/- Two structs of a sign and a slice that two calls answer and that go to two new variables ('x, y := f(..), g(..)'): Go leaves open when the variables are made; whatever the order, both boxes hold the answers. No condition. -/
namespace Go.Proofs.YtohokfbohdoijaaGreatDoor
open Go.RowKit Limb
set_option linter.unusedVariables false
abbrev zbox : Obj := .cells #[Value.bool false, Value.slice none 0 0] 31
def ZB (w : World) (g : Nat) : Prop := Row2 w g 31 (.bool false) (.slice none 0 0)
theorem ZB.below {w w' : World} {g : Nat} (h : ZB w g) (hb : Below w.heap.size w w') : ZB w' g := Row2.below h hb
theorem ZB.lt {w : World} {g : Nat} (h : ZB w g) : g < w.heap.size := Row2.lt h
theorem ZB.cells {w : World} {g : Nat} (h : ZB w g) : w.cell? ⟨g, 0, none⟩ = some (.bool false) ∧ w.cell? ⟨g, 1, none⟩ = some (.slice none 0 0) ∧ w.frozen? ⟨g, 0, none⟩ = false ∧ w.frozen? ⟨g, 1, none⟩ = false := ⟨h.c0, h.c1, h.free 0, h.free 1⟩
theorem ZZ.put {w : World} {s : Bool} {A : Option Addr} {n c : Nat} {xs : List Nat} {z : Int} {L g : Nat} (h : ZZ w s A n c xs z L) (hb : ZB w g) (u v : Value) : ZZ ((w.setCell ⟨g, 0, none⟩ u).setCell ⟨g, 1, none⟩ v) s A n c xs z L := ⟨h.nn.put2 hb u v, h.sgn⟩
theorem Row2.far {w : World} {g g' : Nat} {T : TypeId} {u v : Value} (h : Row2 w g' T u v) (hne : g ≠ g') (x y : Value) : Row2 ((w.setCell ⟨g, 0, none⟩ x).setCell ⟨g, 1, none⟩ y) g' T u v := by
 unfold Row2 at h ⊢
 simp only [World.setCell, Array.getElem?_modify]
 rw [if_neg hne, if_neg hne]
 exact h
theorem Row2.filled {w : World} {g : Nat} {T : TypeId} {u v : Value} (h : Row2 w g T u v) (x y : Value) : Row2 ((w.setCell ⟨g, 0, none⟩ x).setCell ⟨g, 1, none⟩ y) g T x y := h.fill x y
section
variable {wP w : World} {q r : Nat} {s : Bool} {A : Option Addr} {n c : Nat} {xs : List Nat} {z : Int} {L : Nat} {s' : Bool} {A' : Option Addr} {n' c' : Nat} {xs' : List Nat} {z' : Int} {L' : Nat}
structure Two (wP wx : World) (q r : Nat) (s : Bool) (A : Option Addr) (n c : Nat) (xs : List Nat) (z : Int) (L : Nat) (s' : Bool) (A' : Option Addr) (n' c' : Nat) (xs' : List Nat) (z' : Int) (L' : Nat) : Prop where
 q : Row2 wx q 31 (.bool s) (.slice A n c)
 r : Row2 wx r 31 (.bool s') (.slice A' n' c')
 z : ZZ wx s A n c xs z L
 z' : ZZ wx s' A' n' c' xs' z' L'
 b : Below wP.heap.size wP wx
end
end Go.Proofs.YtohokfbohdoijaaGreatDoor

/- Rational numbers in memory: a struct of a sign and two lists of limbs that reads as a number, or as none. No condition. -/
namespace Go.Proofs.YtohokfbohdoijaaGreatDoor
open Go.RowKit Limb
set_option linter.unusedVariables false
theorem NN.short {w : World} {A : Option Addr} {n c : Nat} {xs : List Nat} {a L K : Nat} (h : NN w A n c xs a L) (hK : n ≤ K) : NN w A n c xs a K := ⟨h.isN, h.val, h.cap, hK⟩
structure QQ (w : World) (s : Bool) (A : Option Addr) (n c : Nat) (xs : List Nat) (B : Option Addr) (m d : Nat) (ys : List Nat) (o : Option Rat) (L : Nat) : Prop where
 top : ZZ w s A n c xs (zOf s (Limb.val xs)) L
 bot : NN w B m d ys (Limb.val ys) L
 rd : readQ s xs ys = o
theorem QQ.below {w w' : World} {s : Bool} {A : Option Addr} {n c : Nat} {xs : List Nat} {B : Option Addr} {m d : Nat} {ys : List Nat} {o : Option Rat} {L : Nat} (h : QQ w s A n c xs B m d ys o L) (hb : Below w.heap.size w w') : QQ w' s A n c xs B m d ys o L :=
 ⟨h.top.below hb, h.bot.below hb, h.rd⟩
abbrev QT (w : World) (A : Option Addr) (n c : Nat) (B : Option Addr) (m d : Nat) (o : Option Rat) : Prop :=
 QQ w (sg (oTop o)) A n c (limbs (oTop o).natAbs) B m d (limbs (oBot o)) o 64
theorem qt_some {w : World} {A : Option Addr} {n c : Nat} {B : Option Addr} {m d : Nat} {q : Rat} {L L' : Nat} (hz : ZZ w (sg q.num) A n c (limbs q.num.natAbs) q.num L) (hn : NN w B m d (limbs q.den) q.den L') (hf : fitsQ q = true) : QT w A n c B m d (some q) := by
 have h2 := hf
 simp only [fitsQ, Bool.and_eq_true, decide_eq_true_eq] at h2
 refine ⟨?_, ?_, readQ_told hf⟩
 · show ZZ w (sg q.num) A n c (limbs q.num.natAbs) (zOf (sg q.num) (Limb.val (limbs q.num.natAbs))) 64
   rw [val_limbs, zOf_sg]
   exact ⟨hz.nn.relax h2.1, hz.sgn⟩
 · show NN w B m d (limbs q.den) (Limb.val (limbs q.den)) 64
   rw [val_limbs]
   exact hn.relax h2.2
theorem qt_none (w : World) (c d : Nat) : QT w none 0 0 none 0 0 none := by
 have e1 : limbs (oTop none).natAbs = [] := limbs_zero
 have e2 : limbs (oBot none) = [] := limbs_zero
 refine ⟨?_, ?_, readQ_no goodV_none⟩
 · rw [e1]; exact ⟨⟨IsN.nil _ _, rfl, Nat.le_refl _, Nat.zero_le _⟩, rfl⟩
 · rw [e2]; exact ⟨IsN.nil _ _, rfl, Nat.le_refl _, Nat.zero_le _⟩
theorem QQ.some {w : World} {s : Bool} {A : Option Addr} {n c : Nat} {xs : List Nat} {B : Option Addr} {m d : Nat} {ys : List Nat} {q : Rat} {L : Nat} (h : QQ w s A n c xs B m d ys (some q) L) :
 s = sg q.num ∧ xs = limbs q.num.natAbs ∧ ys = limbs q.den ∧ fitsQ q = true ∧ ZZ w s A n c xs q.num 64 ∧ NN w B m d ys q.den 64 ∧ goodV s xs ys = true := by
 have hg : goodV s xs ys = true := by
  cases h2 : goodV s xs ys with
  | true => rfl
  | false => have := h.rd; rw [readQ_no h2] at this; cases this
 obtain ⟨q', e, h1, h2, h3, h4, h5, h6⟩ := readQ_yes hg
 have := h.rd
 rw [e] at this
 injection this with this
 subst this
 have hf := h4
 simp only [fitsQ, Bool.and_eq_true, decide_eq_true_eq] at hf
 refine ⟨h1, h2, h3, h4, ?_, ?_, hg⟩
 · have ht := h.top
   rw [← h5] at ht
   refine ⟨?_, ht.sgn⟩
   have hn := ht.nn
   rw [h2] at hn ⊢
   exact hn.relax hf.1
 · have hb := h.bot
   rw [← h6] at hb
   rw [h3] at hb ⊢
   exact hb.relax hf.2
theorem QQ.none {w : World} {s : Bool} {A : Option Addr} {n c : Nat} {xs : List Nat} {B : Option Addr} {m d : Nat} {ys : List Nat} {L : Nat} (h : QQ w s A n c xs B m d ys none L) : goodV s xs ys = false := by
 cases h2 : goodV s xs ys with
 | false => rfl
 | true =>
  obtain ⟨q', e, _⟩ := readQ_yes h2
  have := h.rd
  rw [e] at this
  cases this
theorem QQ.good {w : World} {s : Bool} {A : Option Addr} {n c : Nat} {xs : List Nat} {B : Option Addr} {m d : Nat} {ys : List Nat} {o : Option Rat} {L : Nat} (h : QQ w s A n c xs B m d ys o L) : goodV s xs ys = o.isSome := by
 cases o with
 | none => exact h.none
 | some q => exact h.some.2.2.2.2.2.2
theorem keepQ {o o' : Option Rat} (h : o = o') : (decide (sg (oTop o) = sg (oTop o')) && same (limbs (oTop o).natAbs) (limbs (oTop o').natAbs) && same (limbs (oBot o)) (limbs (oBot o'))) = true := by
 subst h; rw [same_self, same_self]; simp
end Go.Proofs.YtohokfbohdoijaaGreatDoor

/- Mathematics of what calls on rational numbers tell: a number or none, and the error beside it. No condition. -/
namespace Go.Proofs.YtohokfbohdoijaaGreatDoor
open Go.RowKit Limb
set_option linter.unusedVariables false
theorem whole_fits {v : Int} (h0 : -9223372036854775808 ≤ v) (h1 : v ≤ 9223372036854775807) : fitsQ (v : Rat) = true := by
 simp only [fitsQ, Bool.and_eq_true, decide_eq_true_eq]
 have e : (4294967296 : Nat) ^ 2 ≤ 4294967296 ^ 64 := Nat.pow_le_pow_right (by decide) (by decide)
 have e1 : ((v : Rat)).num = v := rfl
 have e2 : ((v : Rat)).den = 1 := rfl
 rw [e1, e2]
 omega
def opR (f : Rat → Rat → Option Rat × Int) : Option Rat → Option Rat → Option Rat × Int
 | some p, some q => f p q
 | _, _ => (none, 1)
def limR (q : Rat) : Option Rat × Int := (limQ q, limE q)
def mulR : Option Rat → Option Rat → Option Rat × Int := opR fun p q => limR (p * q)
def divR : Option Rat → Option Rat → Option Rat × Int := opR fun p q => if q.num = 0 then (none, 3) else limR (p / q)
def ofR (x : Int) (b : Nat) : Option Rat × Int := if b = 0 then (none, 3) else limR (mkRat x b)
def cmpR : Option Rat → Option Rat → Int
 | some p, some q => cmpQ p q
 | _, _ => 0
theorem limR_yes {q : Rat} (h : fitsQ q = true) : limR q = (some q, 0) := by unfold limR; rw [limQ_yes h, limE_yes h]
theorem limR_fits {q : Rat} {k l : Nat} (h : Bd q k l) (hk : k ≤ 64) (hl : l ≤ 64) : limR q = (some q, 0) := limR_yes (h.fits hk hl)
theorem zz_sg (x : Int) : zOf (sg x) x.natAbs = x := by
 unfold zOf sg
 by_cases h : x < 0
 · simp [h]; omega
 · simp [h]; omega
theorem zz_div {s : Bool} {x : Int} {b : Nat} (hs : zOf s x.natAbs = x) (hb : b ≠ 0) : zOf s (x.natAbs / Nat.gcd x.natAbs b) = (mkRat x b).num := by
 obtain ⟨m1, m2⟩ := mk_num (x := x) hb
 rw [← m1]
 by_cases h0 : x = 0
 · have e : (mkRat x b).num.natAbs = 0 := by rw [m1, h0]; simp
   rw [e]
   have : (mkRat x b).num = 0 := by omega
   rw [this]; unfold zOf; split <;> rfl
 · have e : s = sg x := by
    cases s with
    | true => symm; apply sg_neg; unfold zOf at hs; rw [if_pos rfl] at hs; omega
    | false => symm; apply sg_pos; unfold zOf at hs; rw [if_neg (by decide)] at hs; omega
   rw [e, ← m2, zz_sg]
theorem ZZ.zo {w : World} {s : Bool} {A : Option Addr} {n c : Nat} {xs : List Nat} {x : Int} {L : Nat} (h : ZZ w s A n c xs x L) : zOf s x.natAbs = x := h.sgn.symm
theorem zz_none (w : World) : ZZ w false none 0 0 [] 0 0 := ⟨⟨IsN.nil _ _, rfl, Nat.le_refl _, Nat.zero_le _⟩, rfl⟩
theorem len_fits (a : Nat) : (limbs a).length ≤ 64 ↔ a < 4294967296 ^ 64 := by
 constructor
 · intro h
   rcases Nat.lt_or_ge a (4294967296 ^ 64) with h2 | h2
   · exact h2
   · have := lt_length_limbs h2; omega
 · exact fun h => length_limbs_le h
theorem fits_len (q : Rat) {n m : Nat} (hn : (limbs q.num.natAbs).length = n) (hm : (limbs q.den).length = m) : (decide (n ≤ 64) && decide (m ≤ 64)) = fitsQ q := by
 subst hn; subst hm
 unfold fitsQ
 rw [decide_eq_decide.2 (len_fits q.num.natAbs), decide_eq_decide.2 (len_fits q.den)]
theorem ofR_zero {x : Int} {b : Nat} {r : Option Rat} {e : Int} (hb : b = 0) (h : ofR x b = (r, e)) : r = none ∧ e = 3 := by
 unfold ofR at h; rw [if_pos hb] at h; cases h; exact ⟨rfl, rfl⟩
theorem ofR_yes {x : Int} {b : Nat} {r : Option Rat} {e : Int} (hb : b ≠ 0) (h : ofR x b = (r, e)) : limR (mkRat x b) = (r, e) := by
 unfold ofR at h; rwa [if_neg hb] at h
theorem limR_no {q : Rat} (h : fitsQ q = false) : limR q = (none, 2) := by unfold limR; rw [limQ_no h, limE_no h]
theorem QQ.fillR3 {w : World} {s : Bool} {A : Option Addr} {n c : Nat} {xs : List Nat} {B : Option Addr} {m d : Nat} {ys : List Nat} {o : Option Rat} {L g : Nat} (h : QQ w s A n c xs B m d ys o L) (hg : NoLimb w g) (x y z : Value) :
 QQ (((w.setCell ⟨g, 0, Option.none⟩ x).setCell ⟨g, 1, Option.none⟩ y).setCell ⟨g, 2, Option.none⟩ z) s A n c xs B m d ys o L := ⟨h.top.fillR3 hg x y z, h.bot.fillR3 hg x y z, h.rd⟩
theorem QQ.fillR4 {w : World} {s : Bool} {A : Option Addr} {n c : Nat} {xs : List Nat} {B : Option Addr} {m d : Nat} {ys : List Nat} {o : Option Rat} {L g : Nat} (h : QQ w s A n c xs B m d ys o L) (hg : NoLimb w g) (x y z v : Value) :
 QQ ((((w.setCell ⟨g, 0, Option.none⟩ x).setCell ⟨g, 1, Option.none⟩ y).setCell ⟨g, 2, Option.none⟩ z).setCell ⟨g, 3, Option.none⟩ v) s A n c xs B m d ys o L := ⟨h.top.fillR4 hg x y z v, h.bot.fillR4 hg x y z v, h.rd⟩
end Go.Proofs.YtohokfbohdoijaaGreatDoor

/- Mathematics of the statements of stage 7: which sums, products and quotients have room, and what they are. No condition. -/
namespace Go.Proofs.YtohokfbohdoijaaGreatDoor
open Go.RowKit Limb
set_option linter.unusedVariables false
theorem QQ.of {w : World} {s : Bool} {A : Option Addr} {n c : Nat} {xs : List Nat} {B : Option Addr} {m d : Nat} {ys : List Nat} {K : Nat} (i : IsN w A n xs) (hc : n ≤ c) (j : IsN w B m ys) (kc : m ≤ d) (h : n ≤ K) (h' : m ≤ K) : QQ w s A n c xs B m d ys (readQ s xs ys) K :=
 ⟨ZZ.of ⟨i, rfl, hc, h⟩, ⟨j, rfl, kc, h'⟩, rfl⟩
theorem qq_told {w : World} {s : Bool} {A : Option Addr} {n c : Nat} {xs : List Nat} {B : Option Addr} {m d : Nat} {ys : List Nat} {q : Rat} {L : Nat} (h : QQ w s A n c xs B m d ys (some q) L) :
 s = sg (oTop (some q)) ∧ xs = limbs (oTop (some q)).natAbs ∧ ys = limbs (oBot (some q)) ∧ QQ w s A n c xs B m d ys (some q) 64 ∧ n ≤ 64 ∧ m ≤ 64 ∧ Bd q n m := by
 obtain ⟨h1, h2, h3, h4, h5, h6, h7⟩ := h.some
 have hn := h5.nn.isN.len
 have hm := h6.isN.len
 obtain ⟨_, _, _, _, l1, l2, _⟩ := goodV_iff.1 h7
 have v1 := val_lt h5.nn.isN.small
 have v2 := val_lt h6.isN.small
 rw [h5.nn.val, hn] at v1
 rw [h6.val, hm] at v2
 exact ⟨h1, h2, h3, ⟨h.top.nn.short (by omega) |> fun t => ⟨t, h.top.sgn⟩, h.bot.short (by omega), h.rd⟩, by omega, by omega, v1, v2⟩
theorem num_ne {q : Rat} (h : q.num ≠ 0) : q ≠ 0 := fun e => h (by rw [e]; rfl)
theorem sign_num {q : Rat} : (cmpQ q 0 == 0) = decide (q.num = 0) := by
 rw [Bool.eq_iff_iff, beq_iff_eq, decide_eq_true_eq, cmpQ_zero]
 exact ⟨fun h => by rw [h]; rfl, fun h => Rat.num_eq_zero.1 h⟩
theorem Row3.set {w : World} {g g' : Nat} {T : TypeId} {a b c : Value} (h : Row3 w g' T a b c) (hne : g ≠ g') (o : Nat) (v : Value) : Row3 (w.setCell ⟨g, o, Option.none⟩ v) g' T a b c := by
 unfold Row3 at h ⊢
 simp only [World.setCell, Array.getElem?_modify]
 rw [if_neg hne]; exact h
theorem Row4.set {w : World} {g g' : Nat} {T : TypeId} {a b c d : Value} (h : Row4 w g' T a b c d) (hne : g ≠ g') (o : Nat) (v : Value) : Row4 (w.setCell ⟨g, o, Option.none⟩ v) g' T a b c d := by
 unfold Row4 at h ⊢
 simp only [World.setCell, Array.getElem?_modify]
 rw [if_neg hne]; exact h
end Go.Proofs.YtohokfbohdoijaaGreatDoor

/- Mathematics of powers of rational numbers (Lean's own), of the limbs that they have, and of the statements of stage 8. No condition. -/
namespace Go.Proofs.YtohokfbohdoijaaGreatDoor
open Go.RowKit Limb
set_option linter.unusedVariables false
def powR : Option Rat → Int → Option Rat × Int
 | some q, n => if 128 < n ∨ n < -128 then (none, 2) else if n = 0 then (some 1, 0) else if n < 0 ∧ q.num = 0 then (none, 3) else limR (q ^ n)
 | none, _ => (none, 1)
def scaleR : Option Rat → Int → Option Rat × Int
 | some q, n => if 600 < n ∨ n < -600 then (none, 2) else limR (q * (10 : Rat) ^ n)
 | none, _ => (none, 1)
theorem ne_of_num {q : Rat} (h : q.num ≠ 0) : q ≠ 0 := num_ne h
theorem num_of_ne {q : Rat} (h : q ≠ 0) : q.num ≠ 0 := fun e => h (Rat.num_eq_zero.1 e)
theorem npow_ne {q : Rat} (h : q ≠ 0) (n : Nat) : q ^ n ≠ 0 := by
 refine ne_of_num ?_
 rw [Rat.num_pow]
 exact Int.pow_ne_zero (num_of_ne h)
theorem inv_told {q : Rat} (h : q.num ≠ 0) : (q⁻¹).num = zOf (sg q.num) q.den ∧ (q⁻¹).den = q.num.natAbs := by
 rw [Rat.num_inv, Rat.den_inv, if_neg h]
 refine ⟨?_, rfl⟩
 rcases Int.lt_trichotomy q.num 0 with h1 | h1 | h1
 · rw [sg_neg h1, Int.sign_eq_neg_one_of_neg h1]; unfold zOf; rw [if_pos rfl]; omega
 · exact absurd h1 h
 · rw [sg_pos (by omega), Int.sign_eq_one_of_pos h1]; unfold zOf; rw [if_neg (by decide)]; omega
theorem Bd.inv {q : Rat} {k l : Nat} (h : Bd q k l) (hq : q.num ≠ 0) : Bd (q⁻¹) l k := by
 obtain ⟨h1, h2⟩ := inv_told hq
 refine ⟨?_, ?_⟩
 · rw [h1, zOf_abs]; exact h.2
 · rw [h2]; exact h.1
theorem one_bd : Bd 1 1 1 := by unfold Bd; decide +kernel
theorem pow_none {q : Rat} {n : Int} (hn : -128 ≤ n ∧ n < 0) (hq : q.num = 0) : powR (some q) n = (none, 3) := by
 show (if 128 < n ∨ n < -128 then ((none : Option Rat), (2 : Int)) else if n = 0 then (some 1, 0) else if n < 0 ∧ q.num = 0 then (none, 3) else limR (q ^ n)) = _
 rw [if_neg (by omega), if_neg (by omega), if_pos ⟨hn.2, hq⟩]
theorem ten_ne : (10 : Rat) ≠ 0 := by decide
end Go.Proofs.YtohokfbohdoijaaGreatDoor

/- Mathematics of the statements of stage 8: which powers have room, and what they are. No condition. -/
namespace Go.Proofs.YtohokfbohdoijaaGreatDoor
open Go.RowKit Limb
set_option linter.unusedVariables false
theorem pos_of_cmp {q : Rat} (h : 0 < cmpQ q 0) : 0 < q := by
 rcases rat_tri q 0 with h2 | h2 | h2
 · rw [cmpQ_lt h2] at h; omega
 · rw [cmpQ_eq h2] at h; omega
 · exact h2
theorem zOf_pow {x : Int} (n : Nat) : zOf (sg x && decide (n % 2 = 1)) (x.natAbs ^ n) = x ^ n := by
 induction n with
 | zero => simp [zOf]
 | succ n ih =>
  rw [Int.pow_succ, ← ih, Nat.pow_succ]
  have hx := zz_sg x
  cases hs : sg x with
  | false =>
   rw [hs] at hx
   have e : zOf false x.natAbs = (x.natAbs : Int) := by unfold zOf; rw [if_neg (by decide)]
   rw [e] at hx
   unfold zOf
   simp only [Bool.false_and, Bool.false_eq_true, if_false]
   rw [Int.natCast_mul, hx]
  | true =>
   rw [hs] at hx
   have e : zOf true x.natAbs = -(x.natAbs : Int) := by unfold zOf; rw [if_pos rfl]
   rw [e] at hx
   unfold zOf
   simp only [Bool.true_and, decide_eq_true_eq]
   by_cases h : n % 2 = 1
   · rw [if_pos h, if_neg (by omega), Int.natCast_mul, Int.neg_mul, ← Int.mul_neg]
     congr 1
     omega
   · rw [if_neg h, if_pos (by omega), Int.natCast_mul, ← Int.mul_neg, hx]
theorem powR_big {q : Rat} {n : Int} (h : 128 < n ∨ n < -128) : powR (some q) n = (none, 2) := if_pos h
theorem powR_zero {q : Rat} {n : Int} (h : n = 0) : powR (some q) n = (some 1, 0) := by
 subst h; rfl
theorem powR_lim {q : Rat} {n : Int} (h1 : n ≤ 128) (h2 : -128 ≤ n) (h0 : n ≠ 0) (hq : 0 < n ∨ q.num ≠ 0) : powR (some q) n = limR (q ^ n) := by
 show (if 128 < n ∨ n < -128 then ((none : Option Rat), (2 : Int)) else if n = 0 then (some 1, 0) else if n < 0 ∧ q.num = 0 then (none, 3) else limR (q ^ n)) = _
 rw [if_neg (by omega), if_neg h0, if_neg (by omega)]
theorem scaleR_big {q : Rat} {n : Int} (h : 600 < n ∨ n < -600) : scaleR (some q) n = (none, 2) := if_pos h
theorem scaleR_lim {q : Rat} {n : Int} (h1 : n ≤ 600) (h2 : -600 ≤ n) : scaleR (some q) n = limR (q * (10 : Rat) ^ n) := if_neg (by omega)
end Go.Proofs.YtohokfbohdoijaaGreatDoor

/- Mathematics of literals: the longest one with which a text begins, its parts, its number. No condition. -/
namespace Go.Proofs.YtohokfbohdoijaaGreatDoor.Limb
set_option linter.unusedVariables false
def litRun (l : List Nat) : Nat := (l.takeWhile isDig).length
def Dig1 (l : List Nat) : Prop := allDig l = true ∧ l ≠ []
def Ender (r : List Nat) : Prop := r = [] ∨ ∃ c t, r = c :: t ∧ isDig c = false ∧ c ≠ 46 ∧ c ≠ 101
def Ends (r : List Nat) : Prop := r = [] ∨ ∃ c t, r = c :: t ∧ isDig c = false
theorem lim_nil (k : Nat) : lim [] k = 0 := by simp [lim]
theorem Ender.ends {r : List Nat} (h : Ender r) : Ends r := h.imp id fun ⟨c, t, e, hc, _⟩ => ⟨c, t, e, hc⟩
theorem Dig1.pos {l : List Nat} (h : Dig1 l) : l.length ≠ 0 := fun e => h.2 (List.eq_nil_of_length_eq_zero e)
theorem Ender.lim {r : List Nat} (h : Ender r) : lim r 0 ≠ 46 ∧ lim r 0 ≠ 101 := by
 rcases h with rfl | ⟨c, t, rfl, _, h1, h2⟩
 · rw [lim_nil]; exact ⟨by decide, by decide⟩
 · exact ⟨h1, h2⟩
theorem Ender.nil : Ender [] := .inl rfl
theorem Ender.of {c : Nat} (t : List Nat) (h : isDig c = false ∧ c ≠ 46 ∧ c ≠ 101) : Ender (c :: t) := .inr ⟨c, t, rfl, h⟩
end Go.Proofs.YtohokfbohdoijaaGreatDoor.Limb

/- Mathematics of units: a unit's text as a list of bytes, what it tells over a table; the table itself. No condition. -/
namespace Go.Proofs.YtohokfbohdoijaaGreatDoor
open Go.RowKit Limb
set_option linter.unusedVariables false
abbrev UQ := Rat × List Int
def dimZ : List Int := [0, 0, 0, 0, 0, 0, 0]
def oneU : UQ := (1, dimZ)
def okU (u : UQ) : Prop := 0 < u.1 ∧ fitsQ u.1 = true ∧ u.2.length = 7 ∧ goodD u.2 = true
abbrev addD (a b : List Int) : List Int := List.zipWith (· + ·) a b
def mulU (p u : UQ) (n : Int) : Option UQ :=
 if fitsQ (u.1 ^ n) = true ∧ fitsQ (p.1 * u.1 ^ n) = true ∧ goodD (u.2.map (· * n)) = true ∧ goodD (addD p.2 (u.2.map (· * n))) = true then some (p.1 * u.1 ^ n, addD p.2 (u.2.map (· * n))) else none
def isLet (c : Nat) : Bool := (decide (97 ≤ c) && decide (c ≤ 122)) || (decide (65 ≤ c) && decide (c ≤ 90))
def isWd (c : Nat) : Bool := isLet c || isDig c || decide (c = 95)
def skipR (l : List Nat) : List Nat := l.dropWhile (fun c => decide (c = 32))
def nameN : List Nat → Nat
 | [] => 0
 | c :: l => if isLet c = true then 1 + (l.takeWhile isWd).length else 0
def isNm (l : List Nat) : Bool := decide (1 ≤ l.length) && decide (l.length ≤ 16) && decide (nameN l = l.length)
inductive PR (α : Type) where
 | ok : α → PR α
 | bad : Int → Nat → PR α
def digR (l : List Nat) : PR (Int × List Nat) :=
 if litRun l = 0 then .bad 12 l.length
 else if 3 < litRun l then .bad 12 (l.length - 3)
 else .ok ((decV (l.take (litRun l)) : Nat), l.drop (litRun l))
def negR : PR (Int × List Nat) → PR (Int × List Nat)
 | .ok (n, l) => .ok (-n, l)
 | .bad e r => .bad e r
def expS : List Nat → PR (Int × List Nat)
 | [] => .bad 12 0
 | c :: l => if c = 45 then negR (digR (skipR l)) else digR (c :: l)
def expT : List Nat → PR (Int × List Nat)
 | [] => .ok (1, [])
 | c :: l => if c = 94 then expS (skipR l) else .ok (1, c :: l)
def expR (l : List Nat) : PR (Int × List Nat) := expT (skipR l)
abbrev Tb := List (List Nat × UQ)
def powT (p u : UQ) (dir : Int) (at0 : Nat) : PR (Int × List Nat) → PR (UQ × List Nat)
 | .bad e r => .bad e r
 | .ok (n, l) =>
  if 64 < n.natAbs then .bad 2 at0
  else match mulU p u (dir * n) with
   | none => .bad 2 at0
   | some q => .ok (q, skipR l)
def pieceT (M : Tb) (dir : Int) (p : UQ) : List Nat → PR (UQ × List Nat)
 | [] => .bad 12 0
 | c :: l =>
  if c = 49 then .ok (p, skipR l)
  else if isLet c = true then
   if 16 < nameN (c :: l) then .bad 12 (l.length + 1 - 16)
   else match M.lookup ((c :: l).take (nameN (c :: l))) with
    | none => .bad 15 (l.length + 1)
    | some u => powT p u dir (l.length + 1) (expR ((c :: l).drop (nameN (c :: l))))
  else .bad 12 (l.length + 1)
def pieceR (M : Tb) (dir : Int) (p : UQ) (l : List Nat) : PR (UQ × List Nat) := pieceT M dir p (skipR l)
def parseR (M : Tb) : Nat → Int → UQ → List Nat → PR UQ
 | 0, _, _, l => .bad 12 l.length
 | f + 1, dir, p, l =>
  match pieceR M dir p l with
  | .bad e r => .bad e r
  | .ok (q, []) => .ok q
  | .ok (q, c :: l2) => if c = 42 then parseR M f 1 q l2 else if c = 47 then parseR M f (-1) q l2 else .bad 12 (l2.length + 1)
def parseU (M : Tb) (l : List Nat) : PR UQ := parseR M (l.length + 1) 1 oneU l
def preU : List (List Nat × Int) := [([], 0), ([107], 3), ([77], 6), ([109], -3), ([117], -6), ([99], -2)]
def basU : List (List Nat × Int × List Int) := [
 ([109], 0, [1, 0, 0, 0, 0, 0, 0]), ([115], 0, [0, 0, 1, 0, 0, 0, 0]), ([65], 0, [0, 0, 0, 1, 0, 0, 0]), ([75], 0, [0, 0, 0, 0, 1, 0, 0]), ([109, 111, 108], 0, [0, 0, 0, 0, 0, 1, 0]),
 ([99, 100], 0, [0, 0, 0, 0, 0, 0, 1]), ([103], -3, [0, 1, 0, 0, 0, 0, 0]), ([72, 122], 0, [0, 0, -1, 0, 0, 0, 0]), ([78], 0, [1, 1, -2, 0, 0, 0, 0]), ([80, 97], 0, [-1, 1, -2, 0, 0, 0, 0]),
 ([74], 0, [2, 1, -2, 0, 0, 0, 0]), ([87], 0, [2, 1, -3, 0, 0, 0, 0]), ([67], 0, [0, 0, 1, 1, 0, 0, 0]), ([86], 0, [2, 1, -3, -1, 0, 0, 0]), ([76], -3, [3, 0, 0, 0, 0, 0, 0])]
def ofU (v : Rat) (t : Int) (d : List Int) : UQ := (v * (10 : Rat) ^ t, d)
def rowU (b : List Nat × Int × List Int) (p : List Nat × Int) : List Nat × UQ := (p.1 ++ b.1, ofU 1 (p.2 + b.2.1) b.2.2)
def stdTo (i j : Nat) : Tb := ((basU.take i).flatMap (fun b => preU.map (rowU b)) ++ (match basU[i]? with | some b => (preU.take j).map (rowU b) | none => [])).reverse
def stdU : Tb := ([104], ofU 3600 0 [0, 0, 1, 0, 0, 0, 0]) :: ([109, 105, 110], ofU 60 0 [0, 0, 1, 0, 0, 0, 0]) :: stdTo 15 0
def bAt (i : Nat) : List Nat × Int × List Int := basU.getD i ([], 0, [])
def pAt (j : Nat) : List Nat × Int := preU.getD j ([], 0)
def StdStep (i j : Nat) : Prop := stdTo i (j + 1) = rowU (bAt i) (pAt j) :: stdTo i j ∧ (stdTo i j).lookup (rowU (bAt i) (pAt j)).1 = none
instance (i j : Nat) : Decidable (StdStep i j) := by unfold StdStep; infer_instance
theorem stdTo_step : ∀ i < 15, ∀ j < 6, StdStep i j := by decide +kernel
theorem stdTo_row : ∀ i < 15, stdTo i 6 = stdTo (i + 1) 0 := by decide +kernel
theorem stdTo_min : (stdTo 15 0).lookup [109, 105, 110] = none ∧ (([109, 105, 110], ofU 60 0 [0, 0, 1, 0, 0, 0, 0]) :: stdTo 15 0).lookup [104] = none := by decide +kernel
theorem stdU_len : stdU.length = 92 := by decide +kernel
def TbOk (M : Tb) : Prop := (M.map (·.1)).Nodup ∧ ∀ p ∈ M, Bytes p.1 ∧ okU p.2
instance : DecidablePred okU := fun u => by unfold okU; infer_instance
theorem stdU_nodup : (stdU.map (·.1)).Nodup := by decide +kernel
theorem stdU_all : ∀ p ∈ stdU, (∀ x ∈ p.1, x < 256) ∧ okU p.2 := by decide +kernel
theorem stdU_ok : TbOk stdU := ⟨stdU_nodup, stdU_all⟩
def firstR : Tb := basU.map fun b => (b.1, ofU 1 b.2.1 b.2.2)
def facR : List (List Nat × Rat) := [([107], 1000), ([77], 1000000), ([109], 1 / 1000), ([117], 1 / 1000000), ([99], 1 / 100)]
def preR (x : List Nat × UQ) (f : List Nat × Rat) : List Nat × UQ := (f.1 ++ x.1, (f.2 * x.2.1, x.2.2))
def fAt (k : Nat) : List Nat × Rat := facR.getD k ([], 0)
def xAt1 (i : Nat) : List Nat × UQ := firstR.getD i ([], (0, []))
def refTo (i k : Nat) : Tb := firstR ++ (firstR.take i).flatMap (fun x => facR.map (preR x)) ++ (match firstR[i]? with | some x => (facR.take k).map (preR x) | none => [])
def RefStep (i k : Nat) : Prop := refTo i (k + 1) = refTo i k ++ [preR (xAt1 i) (fAt k)] ∧ (refTo i k).lookup (preR (xAt1 i) (fAt k)).1 = none
instance (i j : Nat) : Decidable (RefStep i j) := by unfold RefStep; infer_instance
theorem lookup_mem {M : Tb} {k : List Nat} {u : UQ} (h : M.lookup k = some u) : (k, u) ∈ M := by
 induction M with
 | nil => cases h
 | cons p M ih =>
  obtain ⟨a, b⟩ := p
  rw [List.lookup_cons] at h
  by_cases e : k = a
  · subst e; simp at h; subst h; simp
  · have : (k == a) = false := by simp [e]
    rw [this] at h
    exact List.mem_cons_of_mem _ (ih h)
theorem lookup_none {M : Tb} {k : List Nat} : M.lookup k = none ↔ k ∉ M.map (·.1) := by
 induction M with
 | nil => simp
 | cons p M ih =>
  obtain ⟨a, b⟩ := p
  rw [List.lookup_cons]
  by_cases e : k = a
  · subst e; simp
  · have : (k == a) = false := by simp [e]
    rw [this, ih]; simp [e]
theorem TbOk.ok {M : Tb} (h : TbOk M) {k : List Nat} {u : UQ} (e : M.lookup k = some u) : okU u := (h.2 _ (lookup_mem e)).2
theorem TbOk.put {M : Tb} (h : TbOk M) {k : List Nat} {u : UQ} (hk : Bytes k) (hu : okU u) (e : M.lookup k = none) : TbOk ((k, u) :: M) := by
 refine ⟨?_, ?_⟩
 · rw [List.map_cons, List.nodup_cons]; exact ⟨lookup_none.1 e, h.1⟩
 · intro p hp
   rcases List.mem_cons.1 hp with rfl | hp
   · exact ⟨hk, hu⟩
   · exact h.2 p hp
/-! ### reading step by step -/
theorem while_step {p : Nat → Bool} : ∀ {l : List Nat} {k : Nat}, k ≤ (l.takeWhile p).length → k < l.length → p (lim l k) = true → k + 1 ≤ (l.takeWhile p).length
 | [], k, h, hk, _ => absurd hk (by simp)
 | c :: l, 0, h, hk, hp => by rw [List.takeWhile_cons_of_pos (by simpa [lim] using hp)]; simp
 | c :: l, k + 1, h, hk, hp => by
  by_cases hc : p c = true
  · rw [List.takeWhile_cons_of_pos hc] at h ⊢
    have := while_step (l := l) (k := k) (by simpa using h) (by simpa using hk) (by simpa [lim] using hp)
    simpa using this
  · rw [List.takeWhile_cons_of_neg hc] at h; simp at h
theorem while_stop {p : Nat → Bool} : ∀ {l : List Nat} {k : Nat}, k ≤ (l.takeWhile p).length → (k < l.length → p (lim l k) = false) → (l.takeWhile p).length = k
 | [], k, h, _ => by simp at h ⊢; omega
 | c :: l, 0, h, hp => by
  have := hp (by simp)
  rw [List.takeWhile_cons_of_neg (by simpa [lim] using this)]; rfl
 | c :: l, k + 1, h, hp => by
  by_cases hc : p c = true
  · rw [List.takeWhile_cons_of_pos hc] at h ⊢
    have := while_stop (p := p) (l := l) (k := k) (by simpa using h) (fun h2 => by simpa [lim] using hp (by simpa using h2))
    simpa using this
  · rw [List.takeWhile_cons_of_neg hc] at h; simp at h
theorem nameN_cons (c : Nat) (l : List Nat) : nameN (c :: l) = if isLet c = true then 1 + (l.takeWhile isWd).length else 0 := rfl
theorem nameN_le (l : List Nat) : nameN l ≤ l.length := by
 cases l with
 | nil => simp [nameN]
 | cons c l =>
  rw [nameN_cons]
  split
  · have := (List.takeWhile_prefix isWd (l := l)).length_le; simp; omega
  · simp
def nmAt (k c : Nat) : Bool := isLet c || (decide (0 < k) && (isDig c || decide (c = 95)))
theorem name_step {l : List Nat} {k : Nat} (h : k ≤ nameN l) (hk : k < l.length) (hp : nmAt k (lim l k) = true) : k + 1 ≤ nameN l := by
 cases l with
 | nil => simp at hk
 | cons c l =>
  cases k with
  | zero =>
   have : isLet c = true := by simpa [nmAt, lim] using hp
   rw [nameN_cons, if_pos this]; omega
  | succ k =>
   by_cases hc : isLet c = true
   · rw [nameN_cons, if_pos hc] at h ⊢
     have := while_step (p := isWd) (l := l) (k := k) (by omega) (by simpa using hk) (by simpa [nmAt, isWd, lim, Bool.or_assoc] using hp)
     omega
   · rw [nameN_cons, if_neg hc] at h; omega
theorem name_stop {l : List Nat} {k : Nat} (h : k ≤ nameN l) (hp : k < l.length → nmAt k (lim l k) = false) : nameN l = k := by
 cases l with
 | nil => simp [nameN] at h ⊢; omega
 | cons c l =>
  cases k with
  | zero =>
   have : isLet c = false := by simpa [nmAt, lim] using hp (by simp)
   rw [nameN_cons, if_neg (by rw [this]; decide)]
  | succ k =>
   by_cases hc : isLet c = true
   · rw [nameN_cons, if_pos hc] at h ⊢
     have := while_stop (p := isWd) (l := l) (k := k) (by omega) (fun h2 => by simpa [nmAt, isWd, lim, Bool.or_assoc] using hp (by simpa using h2))
     omega
   · rw [nameN_cons, if_neg hc] at h; omega
theorem drop_at {l : List Nat} {i : Nat} (h : i < l.length) : l.drop i = lim l i :: l.drop (i + 1) := by
 rw [List.drop_eq_getElem_cons h]
 simp [lim, List.getD_eq_getElem?_getD, h]
theorem skip_at {l : List Nat} {i : Nat} (h : i < l.length) (e : lim l i = 32) : skipR (l.drop i) = skipR (l.drop (i + 1)) := by
 rw [drop_at h, e]; rfl
theorem skip_stop {l : List Nat} {i : Nat} (e : i < l.length → lim l i ≠ 32) : skipR (l.drop i) = l.drop i := by
 by_cases h : i < l.length
 · rw [drop_at h]; unfold skipR; rw [List.dropWhile_cons_of_neg (by simpa using e h)]
 · rw [List.drop_eq_nil_of_le (by omega)]; rfl
theorem skip_skip (l : List Nat) : skipR (skipR l) = skipR l := by
 unfold skipR
 induction l with
 | nil => rfl
 | cons c l ih =>
  by_cases h : decide (c = 32) = true
  · rw [List.dropWhile_cons_of_pos (p := fun c => decide (c = 32)) h]; exact ih
  · rw [List.dropWhile_cons_of_neg (p := fun c => decide (c = 32)) h, List.dropWhile_cons_of_neg (p := fun c => decide (c = 32)) h]
end Go.Proofs.YtohokfbohdoijaaGreatDoor

/- What package whole's own helpers answer (signed, isBelow), and strings.CutPrefix of a minus sign, as contracts over memory. Conditions: sizes of at most so many limbs. -/
namespace Go.Proofs.YtohokfbohdoijaaGreatDoor
open Go.RowKit Limb
set_option linter.unusedVariables false
theorem len_limbs_zero {a : Nat} : (limbs a).length = 0 ↔ a = 0 := by
 constructor
 · intro h
   have h2 := val_limbs a
   rw [List.eq_nil_of_length_eq_zero h] at h2
   exact h2.symm
 · rintro rfl; rw [limbs_zero]; rfl
theorem results_mixed {P : Program} {fn : Func} {p q : Tmp} {ty : TypeId} (h : fn.results = #[.cell p ty, .tmp q]) (tmps : Array Value) (w : World) (g : Nat) (t : TypeId) (cs : Array Value) (fr : Nat × Nat) (d : TypeDesc) (v : Value)
 (hp : tmps.getD p undef = .pointer (some ⟨g, 0, none⟩)) (hq : tmps.getD q undef = v) (hg : w.heap[g]? = some (.cells cs t fr))
 (hu : P.underlying ty = some d) (hd : (match d with | .struct _ | .array _ _ => true | _ => false) = true) (hi : (P.info? ty).map (·.size) = some cs.size) :
 (results fn tmps).run P w = .ok (.tuple #[.agg cs, v]) w := by
 have hp' : tmps[p]?.getD undef = .pointer (some ⟨g, 0, none⟩) := by simpa using hp
 have hq' : tmps[q]?.getD undef = v := by simpa using hq
 simp [results, h, hp', hq', asAddr, run_loadVar_row w g t ty cs fr d hg hu hd hi]
section
variable {w : World} {s s' : Bool} {A A' : Option Addr} {n c n' c' : Nat} {xs ys : List Nat} {x y : Int} {L L' : Nat}
theorem signed_c {a : Nat} (hx : NN w A n c (limbs a) a L) (b : Bool) (z : Int) (hz : zOf b a = z) :
 Calls Tryz.prog 99 #[.bool b, .slice A n c] w fun e w' => e = .returned (.agg #[.bool (sg z), .slice A n c]) ∧ ZZ w' (sg z) A n c (limbs z.natAbs) z L ∧ Below w.heap.size w w' := by
 have ez : z.natAbs = a := by rw [← hz, zOf_abs]
 have hn : n = 0 ↔ a = 0 := by rw [← hx.isN.len]; exact len_limbs_zero
 have HZ : RowKit.Hid (ZZ w (sg z) A n c (limbs z.natAbs) z L) := ZZ.mk' (by rw [ez]; exact hx)
 clear hx
 by_cases hb : b = true
 · subst hb
   by_cases h0 : a = 0
   · have es : sg z = false := by rw [← hz, h0]; rfl
     obtain rfl : n = 0 := hn.2 h0
     rw [es] at HZ ⊢
     clear es hn ez hz h0
     go_enter Tryz.func99, Tryz.ntmps99
     go_wp2
     refine bodyPost_ret (results_cell_row rfl _ _ w.heap.size 31 #[.bool false, .slice A 0 c] (0, 0) _ rfl (row2_new w _ _ _) Tryz.underlying31 rfl int_size) rfl ?_
     exact ⟨rfl, HZ.out.below (below_new _ _), below_new _ _⟩
   · have es : sg z = true := by
      rw [← hz]; apply sg_neg
      unfold zOf; rw [if_pos rfl]; omega
     have Hp : RowKit.Hid (decide (0 < n) = true) := by
      have : n ≠ 0 := fun h => h0 (hn.1 h)
      show _ = _
      rw [decide_eq_true_eq]; omega
     rw [es] at HZ ⊢
     clear es hn ez hz h0
     go_enter Tryz.func99, Tryz.ntmps99
     go_wp2
     refine bodyPost_ret (results_cell_row rfl _ _ w.heap.size 31 #[.bool (decide (0 < n)), .slice A n c] (0, 0) _ rfl (row2_new w _ _ _) Tryz.underlying31 rfl int_size) rfl ?_
     exact ⟨by rw [Hp.out], HZ.out.below (below_new _ _), below_new _ _⟩
 · have hb2 : b = false := by simpa using hb
   subst hb2
   have es : sg z = false := by rw [← hz]; apply sg_pos; unfold zOf; simp
   rw [es] at HZ ⊢
   clear es hn ez hz hb
   go_enter Tryz.func99, Tryz.ntmps99
   go_wp2
   refine bodyPost_ret (results_cell_row rfl _ _ w.heap.size 31 #[.bool false, .slice A n c] (0, 0) _ rfl (row2_new w _ _ _) Tryz.underlying31 rfl int_size) rfl ?_
   exact ⟨rfl, HZ.out.below (below_new _ _), below_new _ _⟩
theorem isBelow_c (hx : ZZ w s A n c xs x L) (h1 : L ≤ 1000000000) (v : Bool) (hv : sg x = v) :
 Calls Tryz.prog 139 #[.agg #[.bool s, .slice A n c]] w fun e w' => e = .returned (.bool v) ∧ Below w.heap.size w w' := by
 have b1 := below_new w (.cells #[Value.bool s, Value.slice A n c] 31)
 have r1 := row2_new w 31 (.bool s) (.slice A n c)
 have HN := Lib.hid (hx.nn.below b1)
 have HB := Lib.hid b1
 have hc0 := r1.c0
 have hc1 := r1.c1
 have hsg := hx.sgn
 clear b1 r1 hx
 cases s with
 | false =>
  have ev : v = false := by rw [← hv]; apply sg_pos; rw [hsg]; simp
  subst ev
  clear hsg hv
  go_enter Tryz.func139, Tryz.ntmps139
  go_wp2
  go_ret
  exact ⟨rfl, HB.out⟩
 | true =>
  have ev : decide ((0 : Int) < ((blen x.natAbs : Nat) : Int)) = v := by
   rw [← hv]
   unfold sg
   rw [if_pos rfl] at hsg
   rw [decide_eq_decide]
   have h2 : blen x.natAbs = 0 ↔ x.natAbs = 0 := blen_eq_zero
   omega
  obtain ⟨m, hm⟩ : ∃ m, ((blen x.natAbs : Nat) : Int) = m := ⟨_, rfl⟩
  rw [hm] at ev
  have Hm := Lib.hid hm
  clear hsg hv hm
  go_enter Tryz.func139, Tryz.ntmps139
  go_wp2_with fail
  refine (bits_c HN.out h1 m Hm.out).mono ?_
  rintro e w2 ⟨rfl, rfl⟩
  by_cases hp : 0 < m
  · have ev2 : v = true := by rw [← ev]; simp [hp]
    subst ev2
    go_wp2
    go_ret
    exact ⟨rfl, HB.out⟩
  · have ev2 : v = false := by rw [← ev]; simp; omega
    subst ev2
    go_wp2
    go_ret
    exact ⟨rfl, HB.out⟩
end
end Go.Proofs.YtohokfbohdoijaaGreatDoor

/- What package whole answers, as contracts over memory: whole numbers in the shortest limbs, 0 not below 0. Conditions: sizes of at most so many limbs; the table of powers of ten where texts are made or read. -/
namespace Go.Proofs.YtohokfbohdoijaaGreatDoor
open Go.RowKit Limb
set_option linter.unusedVariables false
theorem ZZ.zof {w : World} {s : Bool} {A : Option Addr} {n c : Nat} {xs : List Nat} {x : Int} {L : Nat} (h : ZZ w s A n c xs x L) : zOf s x.natAbs = x := h.sgn.symm
theorem zOf_mul {s s' : Bool} {a b : Nat} {x y : Int} (h : zOf s a = x) (k : zOf s' b = y) : zOf (s != s') (a * b) = x * y := by
 subst h; subst k; cases s <;> cases s' <;> simp [zOf, Int.neg_mul, Int.mul_neg]
theorem cmp_abs_neg {x y : Int} (hx : x < 0) (hy : y < 0) : cmpI y.natAbs x.natAbs = cmpZ x y := by
 rcases Int.lt_trichotomy x y with h | h | h
 · rw [cmpZ_lt h, cmpI_lt (by omega)]
 · rw [cmpZ_eq h, cmpI_same (by omega)]
 · rw [cmpZ_gt h, cmpI_gt (by omega)]
theorem cmp_abs_pos {x y : Int} (hx : 0 ≤ x) (hy : 0 ≤ y) : cmpI x.natAbs y.natAbs = cmpZ x y := by
 rcases Int.lt_trichotomy x y with h | h | h
 · rw [cmpZ_lt h, cmpI_lt (by omega)]
 · rw [cmpZ_eq h, cmpI_same (by omega)]
 · rw [cmpZ_gt h, cmpI_gt (by omega)]
theorem conv_u64 {v : Int} (h : -9223372036854775808 ≤ v) (h1 : v ≤ 9223372036854775807) : IntKind.u64.wrap v = if v < 0 then v + 18446744073709551616 else v := by
 rw [IntKind.wrap_u64]; split <;> omega
theorem zz_zof {v : Int} : zOf (decide (v < 0)) v.natAbs = v := by
 unfold zOf
 by_cases h : v < 0
 · simp [h]; omega
 · simp [h]; omega
end Go.Proofs.YtohokfbohdoijaaGreatDoor

/- What the reference of layer 6 answers (Make, Trim, Neg, Text, Of), as contracts over memory. Conditions: sizes of at most so many limbs. -/
namespace Go.Proofs.YtohokfbohdoijaaGreatDoor
open Go.RowKit Limb
set_option linter.unusedVariables false
section
variable {w : World} {s s' : Bool} {A A' : Option Addr} {n c n' c' : Nat} {xs ys : List Nat} {x y : Int} {L L' : Nat}
set_option maxHeartbeats 4000000 in
set_option maxRecDepth 100000 in
theorem refMake_c {a : Nat} (hx : NN w A n c xs a L) (h1 : L ≤ 1000000000) (z : Int) (hz : zOf s a = z) :
 Calls Tryz.prog 85 #[.bool s, .slice A n c] w fun e w' => ∃ A2 n2 c2, e = .returned (.agg #[.bool (sg z), .slice A2 n2 c2]) ∧ ZZ w' (sg z) A2 n2 c2 (limbs z.natAbs) z L ∧ Below w.heap.size w w' := by
 have HW := Lib.hid (below_new w zbox)
 have HZ : RowKit.Hid (ZB (w.alloc zbox) w.heap.size) := row2_new w _ _ _
 have HN := Lib.hid (hx.below HW.out)
 clear hx
 go_enter Tryz.func85, Tryz.ntmps85
 go_wp2_with fail
 refine (refTrim_c HN.out h1).mono ?_
 rintro e w2 ⟨A2, n2, c2, rfl, h2, bn⟩
 have BN := Lib.hid bn
 have hn : n2 = 0 ↔ a = 0 := by rw [← h2.isN.len]; exact len_limbs_zero
 have HZ2 : RowKit.Hid (ZZ w2 (sg z) A2 n2 c2 (limbs z.natAbs) z L) := ZZ.mk' (by rw [← hz, zOf_abs]; exact h2)
 obtain ⟨e0, e1, f0, f1⟩ := (HZ.out.below BN.out).cells
 clear h2 bn
 by_cases hb : s = true
 · by_cases h0 : a = 0
   · have es : sg z = false := by rw [← hz, h0]; cases s <;> rfl
     subst hb
     have e2 : n2 = 0 := hn.2 h0
     subst e2
     have Hes := Lib.hid es
     rw [es] at HZ2
     clear es hn hz h0
     have HF := Lib.hid ((HZ.out.below BN.out).fill (.bool false) (.slice A2 0 c2))
     have HP := Lib.hid (HZ2.out.put (HZ.out.below BN.out) (.bool false) (.slice A2 0 c2))
     have HB := Lib.hid (below_fill (g := w.heap.size) (below_two HW.out BN.out) (Nat.le_refl _) (.bool false) (.slice A2 0 c2))
     go_wp2
     refine bodyPost_ret (results_cell_row rfl _ _ w.heap.size 31 #[.bool false, .slice A2 0 c2] (0, 0) _ rfl HF.out Tryz.underlying31 rfl int_size) rfl ?_
     exact ⟨A2, 0, c2, by rw [Hes.out], by rw [Hes.out]; exact HP.out, HB.out⟩
   · have es : sg z = true := by
      rw [← hz, hb]; apply sg_neg
      unfold zOf; rw [if_pos rfl]; omega
     have Hp : RowKit.Hid (decide (0 < n2) = true) := by
      have : n2 ≠ 0 := fun h => h0 (hn.1 h)
      show _ = _
      rw [decide_eq_true_eq]; omega
     subst hb
     have Hes := Lib.hid es
     rw [es] at HZ2
     clear es hn hz h0
     have HF := Lib.hid ((HZ.out.below BN.out).fill (.bool (decide (0 < n2))) (.slice A2 n2 c2))
     have HP := Lib.hid (HZ2.out.put (HZ.out.below BN.out) (.bool (decide (0 < n2))) (.slice A2 n2 c2))
     have HB := Lib.hid (below_fill (g := w.heap.size) (below_two HW.out BN.out) (Nat.le_refl _) (.bool (decide (0 < n2))) (.slice A2 n2 c2))
     go_wp2
     refine bodyPost_ret (results_cell_row rfl _ _ w.heap.size 31 #[.bool (decide (0 < n2)), .slice A2 n2 c2] (0, 0) _ rfl HF.out Tryz.underlying31 rfl int_size) rfl ?_
     exact ⟨A2, n2, c2, by rw [Hes.out, Hp.out], by rw [Hes.out]; exact HP.out, HB.out⟩
 · have hb2 : s = false := by simpa using hb
   have es : sg z = false := by rw [← hz, hb2]; apply sg_pos; unfold zOf; simp
   subst hb2
   have Hes := Lib.hid es
   rw [es] at HZ2
   clear es hn hz hb
   have HF := Lib.hid ((HZ.out.below BN.out).fill (.bool false) (.slice A2 n2 c2))
   have HP := Lib.hid (HZ2.out.put (HZ.out.below BN.out) (.bool false) (.slice A2 n2 c2))
   have HB := Lib.hid (below_fill (g := w.heap.size) (below_two HW.out BN.out) (Nat.le_refl _) (.bool false) (.slice A2 n2 c2))
   go_wp2
   refine bodyPost_ret (results_cell_row rfl _ _ w.heap.size 31 #[.bool false, .slice A2 n2 c2] (0, 0) _ rfl HF.out Tryz.underlying31 rfl int_size) rfl ?_
   exact ⟨A2, n2, c2, by rw [Hes.out], by rw [Hes.out]; exact HP.out, HB.out⟩
set_option maxHeartbeats 4000000 in
set_option maxRecDepth 100000 in
theorem refITrim_c (hx : ZZ w s A n c xs x L) (h1 : L ≤ 100000) :
 Calls Tryz.prog 135 #[.agg #[.bool s, .slice A n c]] w fun e w' => ∃ A2 n2 c2, e = .returned (.agg #[.bool (sg x), .slice A2 n2 c2]) ∧ ZZ w' (sg x) A2 n2 c2 (limbs x.natAbs) x L ∧ Below w.heap.size w w' := by
 have HS := Lib.hid hx.zof
 have b0 := below_new w (.cells #[Value.bool s, Value.slice A n c] 31)
 have bz := below_new (w.alloc (.cells #[Value.bool s, Value.slice A n c] 31)) zbox
 have HW := Lib.hid (below_two b0 bz)
 have HN := Lib.hid (hx.nn.below HW.out)
 have r0 := (row2_new w 31 (.bool s) (.slice A n c)).below bz
 have rz : ZB ((w.alloc (.cells #[Value.bool s, Value.slice A n c] 31)).alloc zbox) (w.alloc (.cells #[Value.bool s, Value.slice A n c] 31)).heap.size := row2_new (w.alloc (.cells #[Value.bool s, Value.slice A n c] 31)) _ _ _
 simp only [World.size_alloc] at rz
 clear b0 bz hx
 go_enter Tryz.func135, Tryz.ntmps135
 go_wp2_with fail
 generalize (w.alloc (.cells #[Value.bool s, Value.slice A n c] 31)).alloc zbox = w1 at *
 have HR0 := Lib.hid r0
 have c00 := r0.c0
 have c01 := r0.c1
 have HZ := Lib.hid rz
 clear r0 rz
 refine (refMake_c HN.out (by omega) x (by first | exact HS.out | simpa using HS.out)).mono ?_
 rintro e w2 ⟨A2, n2, c2, rfl, h4, bm⟩
 have BN4 := Lib.hid bm
 obtain ⟨e0, e1, f0, f1⟩ := (HZ.out.below BN4.out).cells
 have HF := Lib.hid ((HZ.out.below BN4.out).fill (.bool (sg x)) (.slice A2 n2 c2))
 have HP := Lib.hid (h4.put (HZ.out.below BN4.out) (.bool (sg x)) (.slice A2 n2 c2))
 have HB := Lib.hid (below_fill (g := w.heap.size + 1) (below_two HW.out BN4.out) (by omega) (.bool (sg x)) (.slice A2 n2 c2))
 clear bm h4 c00 c01
 go_wp2
 refine bodyPost_ret (results_cell_row rfl _ _ (w.heap.size + 1) 31 #[.bool (sg x), .slice A2 n2 c2] (0, 0) _ rfl HF.out Tryz.underlying31 rfl int_size) rfl ?_
 exact ⟨A2, n2, c2, rfl, HP.out, HB.out⟩
end
set_option maxHeartbeats 4000000 in
set_option maxRecDepth 100000 in
theorem refIOf_c (v : Int) (h0 : -9223372036854775808 ≤ v) (h1 : v ≤ 9223372036854775807) (w : World) :
 Calls Tryz.prog 81 #[.int .i64 v] w fun e w' => ∃ A2 n2 c2, e = .returned (.agg #[.bool (sg v), .slice A2 n2 c2]) ∧ ZZ w' (sg v) A2 n2 c2 (limbs v.natAbs) v 2 ∧ Below w.heap.size w w' := by
 have HW := Lib.hid (below_new w zbox)
 have HZ : RowKit.Hid (ZB (w.alloc zbox) w.heap.size) := row2_new w _ _ _
 by_cases hv0 : v < 0
 · obtain ⟨u, hu⟩ : ∃ u, u = v.natAbs := ⟨_, rfl⟩
   have hlt : u < 18446744073709551616 := by omega
   obtain ⟨q, hq⟩ : ∃ q : Nat, -(v + 1) = (q : Int) := ⟨(-(v + 1)).toNat, by omega⟩
   have hq2 : q < 9223372036854775808 := by omega
   have e0 : IntKind.i64.wrap (v + 1) = v + 1 := by rw [IntKind.wrap_i64]; omega
   have e0b : wrap64 (v + 1) = v + 1 := by unfold wrap64; omega
   have e1 : IntKind.i64.wrap (-(v + 1)) = (q : Int) := by rw [hq, IntKind.wrap_i64]; omega
   have e1b : wrap64 (-(v + 1)) = (q : Int) := by rw [hq]; unfold wrap64; omega
   have e2 : IntKind.u64.wrap (q : Int) = (q : Int) := by rw [IntKind.wrap_u64]; omega
   have e3 : IntKind.u64.wrap ((q : Int) + 1) = (u : Int) := by rw [IntKind.wrap_u64]; omega
   have eu : q + 1 = u := by omega
   have HS : RowKit.Hid (zOf true u = v) := by
    show _ = _
    rw [hu]; unfold zOf; simp; omega
   have HC := Lib.hid (refOf_c u _ rfl hlt (w.alloc zbox))
   clear hu h0 h1 hq hq2 eu
   go_enter Tryz.func81, Tryz.ntmps81
   go_wp2_with fail
   refine HC.out.mono ?_
   rintro e w2 ⟨A2, n2, c2, rfl, h2, bn⟩
   have BN2 := Lib.hid bn
   clear bn
   go_wp2_with fail
   refine (refMake_c h2 (by decide) v (by first | exact HS.out | simpa using HS.out)).mono ?_
   rintro e w4 ⟨A3, n3, c3, rfl, h4, bm⟩
   have BN4 := Lib.hid (below_two BN2.out bm)
   obtain ⟨e0, e1, f0, f1⟩ := (HZ.out.below BN4.out).cells
   have HF := Lib.hid ((HZ.out.below BN4.out).fill (.bool (sg v)) (.slice A3 n3 c3))
   have HP := Lib.hid (h4.put (HZ.out.below BN4.out) (.bool (sg v)) (.slice A3 n3 c3))
   have HB := Lib.hid (below_fill (g := w.heap.size) (below_two HW.out BN4.out) (Nat.le_refl _) (.bool (sg v)) (.slice A3 n3 c3))
   clear bm h2 h4
   go_wp2
   refine bodyPost_ret (results_cell_row rfl _ _ w.heap.size 31 #[.bool (sg v), .slice A3 n3 c3] (0, 0) _ rfl HF.out Tryz.underlying31 rfl int_size) rfl ?_
   exact ⟨A3, n3, c3, rfl, HP.out, HB.out⟩
 · obtain ⟨u, hu⟩ : ∃ u, u = v.natAbs := ⟨_, rfl⟩
   have hlt : u < 18446744073709551616 := by omega
   have ec : IntKind.u64.wrap v = (u : Int) := by rw [conv_u64 h0 h1, if_neg hv0]; omega
   have hv1 : 0 ≤ v := by omega
   have HS : RowKit.Hid (zOf false u = v) := by
    show _ = _
    rw [hu]; unfold zOf; simp; omega
   have HC := Lib.hid (refOf_c u _ rfl hlt (w.alloc zbox))
   clear hu h0 h1 hv0
   go_enter Tryz.func81, Tryz.ntmps81
   go_wp2_with fail
   refine HC.out.mono ?_
   rintro e w2 ⟨A2, n2, c2, rfl, h2, bn⟩
   have BN2 := Lib.hid bn
   clear bn
   go_wp2_with fail
   refine (refMake_c h2 (by decide) v (by first | exact HS.out | simpa using HS.out)).mono ?_
   rintro e w4 ⟨A3, n3, c3, rfl, h4, bm⟩
   have BN4 := Lib.hid (below_two BN2.out bm)
   obtain ⟨e0, e1, f0, f1⟩ := (HZ.out.below BN4.out).cells
   have HF := Lib.hid ((HZ.out.below BN4.out).fill (.bool (sg v)) (.slice A3 n3 c3))
   have HP := Lib.hid (h4.put (HZ.out.below BN4.out) (.bool (sg v)) (.slice A3 n3 c3))
   have HB := Lib.hid (below_fill (g := w.heap.size) (below_two HW.out BN4.out) (Nat.le_refl _) (.bool (sg v)) (.slice A3 n3 c3))
   clear bm h2 h4
   go_wp2
   refine bodyPost_ret (results_cell_row rfl _ _ w.heap.size 31 #[.bool (sg v), .slice A3 n3 c3] (0, 0) _ rfl HF.out Tryz.underlying31 rfl int_size) rfl ?_
   exact ⟨A3, n3, c3, rfl, HP.out, HB.out⟩
end Go.Proofs.YtohokfbohdoijaaGreatDoor
