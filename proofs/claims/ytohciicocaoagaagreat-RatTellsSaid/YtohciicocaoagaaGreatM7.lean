/- Part 7 of the texts that the statements of this seat lean on: mathematics, and what functions answer, as contracts over memory; each part says its own conditions. -/
import Derived.Test.YtohciicocaoagaaGreatM6
import Derived.Laws.Rows
import Derived.RegionTactic
import Derived.BigRegion
import Derived.IntWalk
import Derived.BigQuiet
import Derived.Deep.QuietTactic
import Derived.Deep.RegionLaw
import Derived.Deep.RegionWith
import Derived.Deep.RegionHeld3
/- Plain mathematics of divisions that are done on the heads of two numbers: multiples of both, as far as the heads make the quotients certain. No condition. -/
namespace Go.Proofs.YtohciicocaoagaaGreat.Limb

theorem square_bd {y t n : Int} (h1 : t ≤ y) (h2 : y * t ≤ n) (h3 : n < 4611686018427387904) (h0 : 0 ≤ y) : t < 2147483648 := by
  by_cases h : t < 2147483648
  · exact h
  · exfalso
    have h4 : 2147483648 * t ≤ y * t := Int.mul_le_mul_of_nonneg_right (by omega) (by omega)
    omega

/-- One division on the heads: half of the cases. -/
theorem head_half {x0 y0 fa fb sa sb ta tb y z q : Int} (ha : 0 ≤ fa) (hb : fb ≤ 0) (hc : sa ≤ 0) (hd : 0 ≤ sb) (hq : 0 ≤ q) (e1 : ta = fa - q * sa) (e2 : tb = fb - q * sb)
    (r1 : z + ta < y + sa) (r2 : 0 ≤ z + tb) (i1 : y * (-tb) + z * sb = x0) (i2 : y * ta + z * (-sa) = y0) (hx : x0 < 4611686018427387904) (hy : y0 < 4611686018427387904) :
    0 ≤ ta ∧ tb ≤ 0 ∧ 0 ≤ z ∧ z < y ∧ ta < 2147483648 ∧ -2147483648 < tb := by
  have p1 : 0 ≤ q * (-sa) := Int.mul_nonneg hq (by omega)
  have p2 : 0 ≤ q * sb := Int.mul_nonneg hq hd
  rw [Int.mul_neg] at p1
  have h1 : 0 ≤ ta := by omega
  have h2 : tb ≤ 0 := by omega
  have h3 : 0 ≤ z := by omega
  have h4 : z < y := by omega
  have p3 : 0 ≤ z * sb := Int.mul_nonneg h3 hd
  have p4 : 0 ≤ z * (-sa) := Int.mul_nonneg h3 (by omega)
  have h5 := square_bd (y := y) (t := ta) (n := y0) (by omega) (by omega) hy (by omega)
  have h6 := square_bd (y := y) (t := -tb) (n := x0) (by omega) (by omega) hx (by omega)
  exact ⟨h1, h2, h3, h4, h5, by omega⟩

/-- What holds of the multipliers and of what the heads still are. -/
structure SInv (x0 y0 a b fa fb sa sb x y : Int) : Prop where
  ex : x = fa * x0 + fb * y0
  ey : y = sa * x0 + sb * y0
  n1 : 0 ≤ x + fa
  n2 : 0 ≤ x + fb
  n3 : 0 ≤ y + sa
  n4 : 0 ≤ y + sb
  sg : (0 ≤ fa ∧ fb ≤ 0 ∧ sa ≤ 0 ∧ 0 ≤ sb ∧ fa * sb - fb * sa = 1) ∨ (fa ≤ 0 ∧ 0 ≤ fb ∧ 0 ≤ sa ∧ sb ≤ 0 ∧ fa * sb - fb * sa = -1)
  m1 : MixOk fa fb
  m2 : MixOk sa sb
  g : Int.gcd (fa * a + fb * b) (sa * a + sb * b) = Int.gcd a b
  st : (fa = 1 ∧ fb = 0 ∧ sa = 0 ∧ sb = 1) ∨ (y + sa < x + fa ∧ y + sb < x + fb ∧ fa * a + fb * b ≤ b)
  yp : 0 ≤ y
  xb : x < 4611686018427387904
  yx : y ≤ x

/-- The heads of two numbers: what stands below them is less than S. -/
structure Heads (x0 y0 a b S : Int) : Prop where
  s : 0 < S
  a1 : x0 * S ≤ a
  a2 : a < (x0 + 1) * S
  b1 : y0 * S ≤ b
  b2 : b < (y0 + 1) * S
  x62 : x0 < 4611686018427387904
  yp : 0 ≤ y0
  yx : y0 ≤ x0
  xp : 0 ≤ x0

theorem SInv.start {x0 y0 a b S : Int} (h : Heads x0 y0 a b S) : SInv x0 y0 a b 1 0 0 1 x0 y0 := by
  have h1 := h.yp; have h2 := h.yx; have h3 := h.x62; have h4 := h.xp
  refine ⟨by omega, by omega, by omega, by omega, by omega, by omega, .inl (by omega), ?_, ?_, by simp, .inl (by omega), by omega, by omega, by omega⟩
  · unfold MixOk; omega
  · unfold MixOk; omega

theorem gcd_less (A B q : Int) : Int.gcd B (A - q * B) = Int.gcd A B := by
  rw [Int.gcd_comm A B, Int.sub_eq_add_neg, ← Int.neg_mul, Int.add_comm]
  exact Int.gcd_mul_right_add_right ..

/-- Below the heads: what is left is not below 0, and less than the number ahead. -/
theorem SInv.near {x0 y0 a b S fa fb sa sb x y : Int} (h : SInv x0 y0 a b fa fb sa sb x y) (hh : Heads x0 y0 a b S) : 0 ≤ sa * a + sb * b ∧ (y + sa < x + fa → y + sb < x + fb → sa * a + sb * b < fa * a + fb * b) := by
  obtain ⟨p, hp⟩ : ∃ p, p = a - x0 * S := ⟨_, rfl⟩
  obtain ⟨r, hr⟩ : ∃ r, r = b - y0 * S := ⟨_, rfl⟩
  have h1 := hh.a1; have h2 := hh.a2; have h3 := hh.b1; have h4 := hh.b2
  rw [Int.add_mul, Int.one_mul] at h2 h4
  have p0 : 0 ≤ p := by omega
  have pS : p ≤ S := by omega
  have r0 : 0 ≤ r := by omega
  have rS : r ≤ S := by omega
  have ea : a = x0 * S + p := by omega
  have eb : b = y0 * S + r := by omega
  have eA : fa * a + fb * b = x * S + fa * p + fb * r := by rw [ea, eb, h.ex]; grind
  have eB : sa * a + sb * b = y * S + sa * p + sb * r := by rw [ea, eb, h.ey]; grind
  rw [eA, eB]
  have hS := hh.s
  have n3 := Int.mul_nonneg h.n3 (Int.le_of_lt hS)
  have n4 := Int.mul_nonneg h.n4 (Int.le_of_lt hS)
  rw [Int.add_mul] at n3 n4
  rcases h.sg with ⟨s1, s2, s3, s4, _⟩ | ⟨s1, s2, s3, s4, _⟩
  · have a1 := Int.mul_nonneg s1 p0
    have a2 := Int.mul_le_mul_of_nonneg_left rS (show 0 ≤ -fb by omega)
    have a3 := Int.mul_le_mul_of_nonneg_left pS (show 0 ≤ -sa by omega)
    have a4 := Int.mul_nonneg (show 0 ≤ -sa by omega) p0
    have a5 := Int.mul_nonneg s4 r0
    have a6 := Int.mul_le_mul_of_nonneg_left rS s4
    rw [Int.neg_mul, Int.neg_mul] at a2 a3
    rw [Int.neg_mul] at a4
    refine ⟨by omega, fun _ l => ?_⟩
    have l2 := Int.mul_lt_mul_of_pos_right l hS
    rw [Int.add_mul, Int.add_mul] at l2
    omega
  · have a1 := Int.mul_nonneg s2 r0
    have a2 := Int.mul_le_mul_of_nonneg_left pS (show 0 ≤ -fa by omega)
    have a3 := Int.mul_le_mul_of_nonneg_left rS (show 0 ≤ -sb by omega)
    have a4 := Int.mul_nonneg (show 0 ≤ -sb by omega) r0
    have a5 := Int.mul_nonneg s3 p0
    have a6 := Int.mul_le_mul_of_nonneg_left pS s3
    rw [Int.neg_mul, Int.neg_mul] at a2 a3
    rw [Int.neg_mul] at a4
    refine ⟨by omega, fun l _ => ?_⟩
    have l2 := Int.mul_lt_mul_of_pos_right l hS
    rw [Int.add_mul, Int.add_mul] at l2
    omega

theorem det_step {fa fb sa sb q : Int} : sa * (fb - q * sb) - sb * (fa - q * sa) = -(fa * sb - fb * sa) := by grind

/-- One division on the heads. -/
theorem SInv.step {x0 y0 a b S fa fb sa sb x y q : Int} (h : SInv x0 y0 a b fa fb sa sb x y) (hh : Heads x0 y0 a b S) (h1 : y + sa ≠ 0) (h2 : y + sb ≠ 0) (hq : q = (x + fa) / (y + sa)) (hq2 : q = (x + fb) / (y + sb)) :
    SInv x0 y0 a b sa sb (fa - q * sa) (fb - q * sb) y (x - q * y) ∧ x - q * y < y ∧ 0 ≤ q := by
  have p1 : 0 < y + sa := by have := h.n3; omega
  have p2 : 0 < y + sb := by have := h.n4; omega
  have q0 : 0 ≤ q := by rw [hq]; exact Int.ediv_nonneg h.n1 (Int.le_of_lt p1)
  have d1 := Int.emod_add_mul_ediv (x + fa) (y + sa)
  have d2 := Int.emod_nonneg (x + fa) (show y + sa ≠ 0 by omega)
  have d3 := Int.emod_lt_of_pos (x + fa) p1
  have d4 := Int.emod_add_mul_ediv (x + fb) (y + sb)
  have d5 := Int.emod_nonneg (x + fb) (show y + sb ≠ 0 by omega)
  have d6 := Int.emod_lt_of_pos (x + fb) p2
  rw [← hq] at d1
  rw [← hq2] at d4
  generalize (x + fa) % (y + sa) = ra at *
  generalize (x + fb) % (y + sb) = rb at *
  clear hq hq2
  have r1 : (x - q * y) + (fa - q * sa) = ra := by grind
  have r2 : (x - q * y) + (fb - q * sb) = rb := by grind
  have hx : x - q * y = (fa - q * sa) * x0 + (fb - q * sb) * y0 := by rw [h.ex, h.ey]; grind
  have hg : Int.gcd (sa * a + sb * b) ((fa - q * sa) * a + (fb - q * sb) * b) = Int.gcd a b := by
    rw [← h.g, ← gcd_less (fa * a + fb * b) (sa * a + sb * b) q]
    congr 1
    grind
  have hBb : sa * a + sb * b ≤ b := by
    rcases h.st with ⟨e1, e2, e3, e4⟩ | ⟨e1, e2, e3⟩
    · subst e3 e4; omega
    · have := (h.near hh).2 e1 e2; omega
  have hdet := @det_step fa fb sa sb q
  obtain ⟨ta, hta⟩ : ∃ t, t = fa - q * sa := ⟨_, rfl⟩
  obtain ⟨tb, htb⟩ : ∃ t, t = fb - q * sb := ⟨_, rfl⟩
  obtain ⟨z, hz⟩ : ∃ t, t = x - q * y := ⟨_, rfl⟩
  rw [← hta] at r1 hx hg hdet ⊢
  rw [← htb] at r2 hx hg hdet ⊢
  rw [← hz] at r1 r2 hx ⊢
  have hx62 := hh.x62
  have hyx := hh.yx
  have hxb := h.xb
  have hyx2 := h.yx
  have m2 := h.m2
  rcases h.sg with ⟨s1, s2, s3, s4, s5⟩ | ⟨s1, s2, s3, s4, s5⟩
  · have i1 : y * (-tb) + z * sb = x0 := by rw [h.ey, hx]; grind
    have i2 : y * ta + z * (-sa) = y0 := by rw [h.ey, hx]; grind
    obtain ⟨k1, k2, k3, k4, k5, k6⟩ := head_half s1 s2 s3 s4 q0 hta htb (by omega) (by omega) i1 i2 hx62 (by omega)
    refine ⟨⟨h.ey, hx, h.n3, h.n4, by omega, by omega, .inr ⟨s3, s4, k1, k2, by omega⟩, m2, ?_, hg, .inr ⟨by omega, by omega, hBb⟩, k3, by omega, by omega⟩, k4, q0⟩
    unfold MixOk; omega
  · have i1 : y * (-ta) + z * sa = y0 := by rw [h.ey, hx]; grind
    have i2 : y * tb + z * (-sb) = x0 := by rw [h.ey, hx]; grind
    obtain ⟨k1, k2, k3, k4, k5, k6⟩ := head_half s2 s1 s4 s3 q0 htb hta (by omega) (by omega) i1 i2 (by omega) hx62
    refine ⟨⟨h.ey, hx, h.n3, h.n4, by omega, by omega, .inl ⟨s3, s4, k2, k1, by omega⟩, m2, ?_, hg, .inr ⟨by omega, by omega, hBb⟩, k3, by omega, by omega⟩, k4, q0⟩
    unfold MixOk; omega

/-- What two multiples must be to go on with. -/
def SEnd (a b fa fb sa sb : Int) : Prop := fb ≠ 0 → 0 ≤ sa * a + sb * b ∧ sa * a + sb * b < fa * a + fb * b ∧ fa * a + fb * b ≤ b ∧ Int.gcd (fa * a + fb * b) (sa * a + sb * b) = Int.gcd a b ∧ MixOk fa fb ∧ MixOk sa sb

theorem SInv.done {x0 y0 a b S fa fb sa sb x y : Int} (h : SInv x0 y0 a b fa fb sa sb x y) (hh : Heads x0 y0 a b S) : SEnd a b fa fb sa sb := by
  intro hfb
  rcases h.st with ⟨e1, e2, e3, e4⟩ | ⟨e1, e2, e3⟩
  · exact absurd e2 hfb
  · obtain ⟨n1, n2⟩ := h.near hh
    exact ⟨n1, n2 e1 e2, e3, h.g, h.m1, h.m2⟩

end Go.Proofs.YtohciicocaoagaaGreat.Limb

/- What package quo's sure answers, as a contract over memory: two multiples of both heads, as far as these make the quotients certain. Conditions: the heads are those of two numbers, below 2^62, the second one not above the first. -/
namespace Go.Proofs.YtohciicocaoagaaGreat
open Go.RowKit Limb
set_option linter.unusedVariables false

/-- A pair of multipliers in memory. -/
def Pair (w : World) (g : Nat) (u v : Int) : Prop := w.heap[g]? = some (.cells #[Value.int .i64 u, Value.int .i64 v] 87 (0, 0))
theorem Pair.lt {w : World} {g : Nat} {u v : Int} (h : Pair w g u v) : g < w.heap.size := by
  rcases Nat.lt_or_ge g w.heap.size with hlt | hge
  · exact hlt
  · unfold Pair at h; rw [Array.getElem?_eq_none hge] at h; cases h
theorem Pair.below {w w' : World} {g : Nat} {u v : Int} (h : Pair w g u v) (hb : Below w.heap.size w w') : Pair w' g u v := (hb.block g h.lt).trans h
theorem Pair.c0 {w : World} {g : Nat} {u v : Int} (h : Pair w g u v) : w.cell? ⟨g, 0, none⟩ = some (.int .i64 u) := by unfold Pair at h; simp [World.cell?, h]
theorem Pair.c1 {w : World} {g : Nat} {u v : Int} (h : Pair w g u v) : w.cell? ⟨g, 1, none⟩ = some (.int .i64 v) := by unfold Pair at h; simp [World.cell?, h]
theorem Pair.f0 {w : World} {g : Nat} {u v : Int} (h : Pair w g u v) (k : Nat) : w.frozen? ⟨g, k, none⟩ = false := by unfold Pair at h; simp [World.frozen?, h]
theorem Pair.put {w : World} {g : Nat} {u v : Int} (h : Pair w g u v) (u' v' : Int) : Pair ((w.setCell ⟨g, 0, none⟩ (.int .i64 u')).setCell ⟨g, 1, none⟩ (.int .i64 v')) g u' v' := by
  unfold Pair at h ⊢
  simp [World.setCell, Array.getElem?_modify, h]
theorem Pair.other {w : World} {g k : Nat} {u v : Int} (h : Pair w g u v) (hk : k ≠ g) (x y : Value) : Pair ((w.setCell ⟨k, 0, none⟩ x).setCell ⟨k, 1, none⟩ y) g u v := by
  unfold Pair at h ⊢
  simp [World.setCell, Array.getElem?_modify, h, hk]
theorem pair_new (w : World) (u v : Int) : Pair (w.alloc (.cells #[Value.int .i64 u, Value.int .i64 v] 87)) w.heap.size u v := heap_alloc_new _ _

theorem mix_size : (Tryz.prog.info? 87).map (·.size) = some 2 := by kernel_rfl

/-- Two results, each a row of cells. -/
theorem results_two {P : Program} {fn : Func} {p q : Tmp} {ty : TypeId} (h : fn.results = #[.cell p ty, .cell q ty]) (tmps : Array Value) (w : World) (g k : Nat) (t : TypeId) (cs ds : Array Value) (fr : Nat × Nat) (d : TypeDesc)
    (hp : tmps.getD p undef = .pointer (some ⟨g, 0, none⟩)) (hq : tmps.getD q undef = .pointer (some ⟨k, 0, none⟩)) (hg : w.heap[g]? = some (.cells cs t fr)) (hk : w.heap[k]? = some (.cells ds t fr))
    (hu : P.underlying ty = some d) (hd : (match d with | .struct _ | .array _ _ => true | _ => false) = true) (hi : (P.info? ty).map (·.size) = some cs.size) (hj : (P.info? ty).map (·.size) = some ds.size) :
    (results fn tmps).run P w = .ok (.tuple #[.agg cs, .agg ds]) w := by
  have hp' : tmps[p]?.getD undef = .pointer (some ⟨g, 0, none⟩) := by simpa using hp
  have hq' : tmps[q]?.getD undef = .pointer (some ⟨k, 0, none⟩) := by simpa using hq
  simp [results, h, hp', hq', asAddr, run_loadVar_row w g t ty cs fr d hg hu hd hi, run_loadVar_row w k t ty ds fr d hk hu hd hj]

theorem below_put2 {w wr : World} {g : Nat} (h : Below w.heap.size w wr) (hg : w.heap.size ≤ g) (u v : Value) : Below w.heap.size w ((wr.setCell ⟨g, 0, none⟩ u).setCell ⟨g, 1, none⟩ v) :=
  (h.setCell (by exact hg) _).setCell (by exact hg) _

set_option maxHeartbeats 1000000 in
theorem sure_any (x0 y0 a b S : Int) (hh : Heads x0 y0 a b S) (w : World) :
    Calls Tryz.prog 95 #[.int .i64 x0, .int .i64 y0] w fun e w' => ∃ fa fb sa sb : Int, e = .returned (.tuple #[.agg #[.int .i64 fa, .int .i64 fb], .agg #[.int .i64 sa, .int .i64 sb]]) ∧ SEnd a b fa fb sa sb ∧ Below w.heap.size w w' := by
  have h0 := SInv.start hh
  have H0 := Lib.hid h0
  have Hh := Lib.hid hh
  have P4 : RowKit.Hid (Pair ((w.alloc (.cells #[Value.int .i64 1, Value.int .i64 0] 87)).alloc (.cells #[Value.int .i64 0, Value.int .i64 1] 87)) w.heap.size 1 0) := (pair_new w 1 0).below (below_new _ _)
  have P5 : RowKit.Hid (Pair ((w.alloc (.cells #[Value.int .i64 1, Value.int .i64 0] 87)).alloc (.cells #[Value.int .i64 0, Value.int .i64 1] 87)) (w.heap.size + 1) 0 1) := by
    have h := pair_new (w.alloc (.cells #[Value.int .i64 1, Value.int .i64 0] 87)) 0 1
    have e : (w.alloc (.cells #[Value.int .i64 1, Value.int .i64 0] 87)).heap.size = w.heap.size + 1 := by simp
    rw [e] at h
    exact h
  have HB := Lib.hid (below_two (below_new w (.cells #[Value.int .i64 1, Value.int .i64 0] 87)) (below_new _ (.cells #[Value.int .i64 0, Value.int .i64 1] 87)))
  clear hh h0
  go_enter Tryz.func95, Tryz.ntmps95
  go_wp2
  go_loopw [0, 1] (fun xv yv wr => ∃ fa fb sa sb x y : Int, xv = .int .i64 x ∧ yv = .int .i64 y ∧ RowKit.Hid (SInv x0 y0 a b fa fb sa sb x y) ∧ RowKit.Hid (Pair wr w.heap.size fa fb) ∧ RowKit.Hid (Pair wr (w.heap.size + 1) sa sb) ∧ RowKit.Hid (Below w.heap.size w wr)) (fun _ yv _ => (intOf yv).toNat)
  case atStart => exact ⟨1, 0, 0, 1, x0, y0, rfl, rfl, H0, P4, P5, HB⟩
  case round =>
    clear H0 P4 P5 HB
    obtain ⟨fa, fb, sa, sb, x, y, rfl, rfl, Hi, P4, P5, HB⟩ := hrel
    obtain ⟨f1, f2, f3, f4, _⟩ := Hi.out.m1
    obtain ⟨s1, s2, s3, s4, _⟩ := Hi.out.m2
    have yp := Hi.out.yp
    have xb := Hi.out.xb
    have yx := Hi.out.yx
    have n1 := Hi.out.n1
    have n2 := Hi.out.n2
    have n3 := Hi.out.n3
    have n4 := Hi.out.n4
    have c40 := P4.out.c0
    have c41 := P4.out.c1
    have c50 := P5.out.c0
    have c51 := P5.out.c1
    by_cases hgo : y + sa ≠ 0 ∧ y + sb ≠ 0 ∧ (x + fa) / (y + sa) = (x + fb) / (y + sb)
    · obtain ⟨g1, g2, g3⟩ := hgo
      obtain ⟨q, hq⟩ : ∃ q, q = (x + fa) / (y + sa) := ⟨_, rfl⟩
      obtain ⟨hst, hlt, q0⟩ := Hi.out.step Hh.out g1 g2 hq (hq.trans g3)
      have d1 : ((y + sa) != 0) = true := by simpa using g1
      have d2 : ((y + sb) != 0) = true := by simpa using g2
      have d3 : ((y + sa) == 0) = false := by simpa using g1
      have d4 : ((y + sb) == 0) = false := by simpa using g2
      have eq1 : (x + fa) / (y + sa) = q := hq.symm
      have eq2 : (x + fb) / (y + sb) = q := by rw [← g3]; exact hq.symm
      obtain ⟨qa, hqa⟩ : ∃ t, t = q * sa := ⟨_, rfl⟩
      obtain ⟨qb, hqb⟩ : ∃ t, t = q * sb := ⟨_, rfl⟩
      obtain ⟨qy, hqy⟩ : ∃ t, t = q * y := ⟨_, rfl⟩
      rw [← hqa, ← hqb, ← hqy] at hst
      rw [← hqy] at hlt
      obtain ⟨t1, t2, t3, t4, _⟩ := hst.m2
      have z0 := hst.yp
      have p1 : 0 < y + sa := by omega
      have p2 : 0 < y + sb := by omega
      have q62 : q ≤ 4611686020574871552 := by
        rw [hq]
        exact Int.le_trans (Int.ediv_le_self _ n1) (by omega)
      have k1 : RowKit.wrap64 ((x + fa).tdiv (y + sa)) = q := by rw [Int.tdiv_eq_ediv_of_nonneg n1, eq1]; exact IntWalk.wrap64_in _ (by omega)
      have k2 : RowKit.wrap64 ((x + fb).tdiv (y + sb)) = q := by rw [Int.tdiv_eq_ediv_of_nonneg n2, eq2]; exact IntWalk.wrap64_in _ (by omega)
      have k3 : RowKit.wrap64 (q * y) = qy := by rw [← hqy]; exact IntWalk.wrap64_in _ (by omega)
      have w1' : IntKind.i64.wrap (q * sa) = qa := by rw [← hqa]; exact IntWalk.i64_in _ (by omega)
      have w2' : IntKind.i64.wrap (q * sb) = qb := by rw [← hqb]; exact IntWalk.i64_in _ (by omega)
      have w3' : IntKind.i64.wrap (fa - qa) = fa - qa := IntWalk.i64_in _ (by omega)
      have w4' : IntKind.i64.wrap (fb - qb) = fb - qb := IntWalk.i64_in _ (by omega)
      have Hst := Lib.hid hst
      clear hst hq g1 g2 g3 hqa hqb hqy Hi
      go_wp2
      rw [eq1, eq2]
      clear eq1 eq2 k1 k2
      have r40 : wr.drew.cell? ⟨w.heap.size, 0, none⟩ = some (.int .i64 fa) := c40
      have r41 : wr.drew.cell? ⟨w.heap.size, 1, none⟩ = some (.int .i64 fb) := c41
      have r50 : wr.drew.cell? ⟨w.heap.size + 1, 0, none⟩ = some (.int .i64 sa) := c50
      have r51 : wr.drew.cell? ⟨w.heap.size + 1, 1, none⟩ = some (.int .i64 sb) := c51
      have z40 := P4.out.f0 0
      have z41 := P4.out.f0 1
      have z50 := P5.out.f0 0
      have z51 := P5.out.f0 1
      go_region
      have Q4 := Lib.hid ((P4.out.put sa sb).other (k := w.heap.size + 1) (by omega) (.int .i64 (fa - qa)) (.int .i64 (fb - qb)))
      have Q5 := Lib.hid ((P5.out.other (k := w.heap.size) (by omega) (.int .i64 sa) (.int .i64 sb)).put (fa - qa) (fb - qb))
      have QB := Lib.hid (below_put2 (below_put2 HB.out (Nat.le_refl _) (.int .i64 sa) (.int .i64 sb)) (Nat.le_succ _) (.int .i64 (fa - qa)) (.int .i64 (fb - qb)))
      clear r40 r41 r50 r51 z40 z41 z50 z51 c40 c41 c50 c51 P4 P5 HB w1' w2' w3' w4' d1 d2 d3 d4
      generalize ((wr.setCell ⟨w.heap.size, 0, none⟩ (.int .i64 sa)).setCell ⟨w.heap.size, 1, none⟩ (.int .i64 sb)).setCell ⟨w.heap.size + 1, 0, none⟩ (.int .i64 (fa - qa)) = w5 at *
      generalize w5.setCell ⟨w.heap.size + 1, 1, none⟩ (.int .i64 (fb - qb)) = w6 at *
      have R4 : RowKit.Hid (Pair w6.drew w.heap.size sa sb) := Q4.out
      have R5 : RowKit.Hid (Pair w6.drew (w.heap.size + 1) (fa - qa) (fb - qb)) := Q5.out
      have RB : RowKit.Hid (Below w.heap.size w w6.drew) := QB.out.drew
      clear Q4 Q5 QB
      go_wp2
      go_roundw
      case rel => exact ⟨sa, sb, fa - qa, fb - qb, y, x - qy, rfl, rfl, Hst, R4, R5, RB⟩
      case measure => simp [intOf]; omega
    · have Hend := Lib.hid (Hi.out.done Hh.out)
      have z40 := P4.out.f0 0
      have z41 := P4.out.f0 1
      have z50 := P5.out.f0 0
      have z51 := P5.out.f0 1
      have r40 : wr.drew.cell? ⟨w.heap.size, 0, none⟩ = some (.int .i64 fa) := c40
      have r41 : wr.drew.cell? ⟨w.heap.size, 1, none⟩ = some (.int .i64 fb) := c41
      have r50 : wr.drew.cell? ⟨w.heap.size + 1, 0, none⟩ = some (.int .i64 sa) := c50
      have r51 : wr.drew.cell? ⟨w.heap.size + 1, 1, none⟩ = some (.int .i64 sb) := c51
      by_cases g1 : y + sa = 0
      case' pos =>
        have hz : y + sa ≤ 0 := by omega
      case' neg =>
        by_cases g2 : y + sb = 0
        case' pos =>
          have hz : 0 < y + sa := by omega
        case' neg =>
          have p1 : 0 < y + sa := by omega
          have p2 : 0 < y + sb := by omega
          have hz : (x + fa) / (y + sa) ≠ (x + fb) / (y + sb) := fun h => hgo ⟨g1, g2, h⟩
      all_goals
        clear hgo Hi
        go_wp2
      all_goals
        go_region
        have Q4 := Lib.hid ((P4.out.put fa fb).other (k := w.heap.size + 1) (by omega) (.int .i64 sa) (.int .i64 sb))
        have Q5 := Lib.hid ((P5.out.other (k := w.heap.size) (by omega) (.int .i64 fa) (.int .i64 fb)).put sa sb)
        have QB := Lib.hid (below_put2 (below_put2 HB.out (Nat.le_refl _) (.int .i64 fa) (.int .i64 fb)) (Nat.le_succ _) (.int .i64 sa) (.int .i64 sb))
        go_wp2
        refine bodyPost_ret (results_two rfl _ _ w.heap.size (w.heap.size + 1) 87 #[Value.int .i64 fa, Value.int .i64 fb] #[Value.int .i64 sa, Value.int .i64 sb] (0, 0) _ rfl rfl Q4.out Q5.out Tryz.underlying87 rfl mix_size mix_size) rfl ?_
        exact ⟨fa, fb, sa, sb, rfl, Hend.out, QB.out.drew⟩

end Go.Proofs.YtohciicocaoagaaGreat

/- What math/bits' Div32 and package quo's Small answer, as contracts over memory: quotient and rest by one limb. Conditions: the list reads as limbs, of at most 10^8 of them; the high word is below the divisor. -/
namespace Go.Proofs.YtohciicocaoagaaGreat
open Go.RowKit Limb
set_option linter.unusedVariables false

theorem or_hi32 (x y : Nat) (hx : x < 4294967296) (hy : y < 4294967296) : bits BinOp.or IntKind.u64 ((x : Int) * 4294967296) (y : Int) = ((x * 4294967296 + y : Nat) : Int) := by
  have e1 : (x : Int) * 4294967296 = ((x * 4294967296 : Nat) : Int) := by omega
  rw [e1, u64_or_nat _ _ (by omega) (by omega), Nat.mul_comm x, show (4294967296 : Nat) = 2 ^ 32 from rfl, Nat.two_pow_add_eq_or_of_lt (by omega)]

set_option maxHeartbeats 400000 in
theorem div32_nat (x y v : Nat) (w : World) (hx : x < v) (hy : y < 4294967296) (hv : v < 4294967296) :
    Calls Tryz.prog 100 #[.int .u32 (x : Int), .int .u32 (y : Int), .int .u32 (v : Int)] w fun e w' => e = .returned (.tuple #[.int .u32 (((x * 4294967296 + y) / v : Nat) : Int), .int .u32 (((x * 4294967296 + y) % v : Nat) : Int)]) ∧ ∃ n, w' = w.drewN n := by
  have hz := one_digit hx hy
  have hm : (x * 4294967296 + y) % v < v := Nat.mod_lt _ (by omega)
  have hs : bits BinOp.or IntKind.u64 ((x : Int) * 4294967296) (y : Int) = ((x * 4294967296 + y : Nat) : Int) := or_hi32 x y (by omega) hy
  obtain ⟨z, hzz⟩ : ∃ z, z = x * 4294967296 + y := ⟨_, rfl⟩
  have hzl : z < 18446744073709551616 := by omega
  rw [← hzz] at hz hm hs ⊢
  obtain ⟨q, hq⟩ : ∃ q, q = z / v := ⟨_, rfl⟩
  obtain ⟨m, hm2⟩ : ∃ m, m = z % v := ⟨_, rfl⟩
  have eq1 : (z : Int) / (v : Int) = (q : Int) := by rw [hq]; simp
  have em1 : (z : Int) % (v : Int) = (m : Int) := by rw [hm2]; simp
  rw [← hq] at hz ⊢
  rw [← hm2] at hm ⊢
  have hv0 : ((v : Int) != 0) = true := by simp; omega
  have hv1 : ((v : Int) == 0) = false := by simp; omega
  clear hzz hq hm2
  go_enter Tryz.func100, Tryz.ntmps100
  go_wp2
  go_quiet (fail)
  go_wp2
  go_ret2
  exact ⟨rfl, _, rfl⟩

theorem ret_small {A : Option Addr} {n c r s : Nat} (h : r = s) : Ending.returned (.tuple #[.slice A n c, .int .u32 ((r : Nat) : Int), .bool true]) = .returned (.tuple #[.slice A n c, .int .u32 ((s : Nat) : Int), .bool true]) := by rw [h]

set_option maxHeartbeats 1000000 in
theorem quoSmall_o {A : Option Addr} {n c : Nat} {xs : List Nat} {a L : Nat} {w : World} (hx : NN w A n c xs a L) (h1 : L ≤ 100000) (v : Nat) (V : Int) (hV : V = v) (hv : v < 4294967296) (h0 : v ≠ 0) :
    Calls Tryz.prog 82 #[.slice A n c, .int .u32 V] w fun e w' => ∃ A1 n1 c1, e = .returned (.tuple #[.slice A1 n1 c1, .int .u32 ((a % v : Nat) : Int), .bool true]) ∧ OwnN w' w.heap.size A1 n1 c1 (limbs (a / v)) ∧ Below w.heap.size w w' := by
  subst hV
  have hv0 : ((v : Int) == 0) = false := by simp; omega
  have hle := hx.le
  have Hval := Lib.hid hx.val
  have Hlt := Lib.hid (lt_pow hx)
  have hT := trim_any A n c xs w hx.isN hx.cap (by omega)
  have hlt := trim_len_le xs
  have hl := hx.isN.len
  have hsm : Small (trim xs) := by rw [trim_eq_limbs hx.isN.small]; exact small_limbs _
  have Hvt : RowKit.Hid (val (trim xs) = a) := by show _ = _; rw [trim_eq_limbs hx.isN.small, val_limbs, Hval.out]
  have hlen : (trim xs).length ≤ 100000 := by omega
  clear hl hlt hx hle Hval
  go_enter Tryz.func82, Tryz.ntmps82
  go_wp2_with fail
  refine hT.mono ?_
  rintro e w1 ⟨A1, n1, c1, rfl, how, hb⟩
  generalize trim xs = ys at *
  have hyl := how.len
  subst hyl
  have How := Lib.hid how
  have Hb := Lib.hid hb
  have hi0 := Lib.hid (OneInv.start ys h0)
  clear how hb hT
  go_wp2
  go_loopw [7, 5] (fun i rv wr => ∃ (k r : Nat) (zs : List Nat), k ≤ ys.length ∧ i = .int .i64 ((k : Int) - 1) ∧ rv = .int .u32 (r : Int) ∧ RowKit.Hid (OneInv ys zs v k r) ∧ RowKit.Hid (OwnN wr w.heap.size A1 ys.length c1 zs) ∧ RowKit.Hid (Below w.heap.size w wr)) (fun i _ _ => (intOf i + 1).toNat)
  case atStart => exact ⟨ys.length, 0, ys, Nat.le_refl _, rfl, rfl, hi0, How, Hb⟩
  case round =>
    clear hi0 How Hb
    obtain ⟨k, r, zs, hk, rfl, rfl, Hinv, How, Hb⟩ := hrel
    by_cases hk0 : k = 0
    · subst hk0
      have hd := Hinv.out.done
      have Hd1 : RowKit.Hid (val zs = a / v) := by show _ = _; rw [hd.1, Hvt.out]
      have hr2 : r = a % v := by rw [hd.2, Hvt.out]
      have Hr := Lib.hid hr2
      have hz := How.out.isN
      have hcap := How.out.caps
      have hsz := How.out.small
      clear hd hr2
      go_wp2_with fail
      refine (trim_any A1 ys.length c1 zs _ hz hcap.1 (by omega)).mono ?_
      rintro e w2 ⟨A2, n2, c2, rfl, how2, hb2⟩
      rw [trim_eq_limbs hsz, Hd1.out] at how2
      have HN := Lib.hid (how2.mono Hb.out.size)
      have HW := Lib.hid (below_two Hb.out hb2)
      clear how2 hb2 hz hcap hsz Hinv How Hb
      go_wp2
      go_ret3
      exact ⟨_, _, _, ret_small Hr.out, HN.out, HW.out⟩
    · obtain ⟨j, rfl⟩ : ∃ j, k = j + 1 := ⟨k - 1, by omega⟩
      have ej : ((j + 1 : Nat) : Int) - 1 = (j : Int) := by omega
      rw [ej]
      obtain ⟨g, rfl, hBg, hgl⟩ := How.out.addr (by omega)
      have h2 := How.out.cell (k := j) (by omega)
      have hr := Hinv.out.2.2.2
      have hz := lim_lt How.out.small j
      clear ej
      go_wp2_with fail
      refine (div32_nat r (lim zs j) v _ hr hz hv).mono ?_
      rintro e w2 ⟨rfl, nd, rfl⟩
      have how2 := How.out.below (below_drewN (Below.refl _ _) nd) (Nat.le_refl _)
      have hb2 := below_drewN Hb.out nd
      have hdl := one_digit hr hz
      have Hst := Lib.hid (Hinv.out.step (k := j) (by omega))
      generalize wr.drewN nd = w2 at *
      obtain ⟨q, hq⟩ : ∃ q, q = (r * 4294967296 + lim zs j) / v := ⟨_, rfl⟩
      obtain ⟨m, hm⟩ : ∃ m, m = (r * 4294967296 + lim zs j) % v := ⟨_, rfl⟩
      rw [← hq] at hdl Hst ⊢
      rw [← hm] at Hst ⊢
      have h3 := how2.cell (k := j) (by omega)
      have h4 := how2.1.frozenAt j
      have Hset := Lib.hid (how2.set j hdl)
      have Hb2 : RowKit.Hid (Below w.heap.size w (w2.setCell ⟨g, j, none⟩ (.int .u32 (q : Int)))) := hb2.setCell (by exact hBg) _
      clear hq hm How Hb Hinv how2 hb2 h2 hz
      go_wp2
      go_roundw
      case rel => exact ⟨j, m, zs.set j q, by omega, by go_num, rfl, Hst, Hset, Hb2⟩
      case measure => simp [intOf] <;> omega

theorem quoSmall_yes {A : Option Addr} {n c : Nat} {xs : List Nat} {a L : Nat} {w : World} (hx : NN w A n c xs a L) (h1 : L ≤ 100000) (v : Nat) (V : Int) (hV : V = v) (hv : v < 4294967296) (h0 : v ≠ 0) :
    Calls Tryz.prog 82 #[.slice A n c, .int .u32 V] w fun e w' => ∃ A1 n1 c1, e = .returned (.tuple #[.slice A1 n1 c1, .int .u32 ((a % v : Nat) : Int), .bool true]) ∧ NN w' A1 n1 c1 (limbs (a / v)) (a / v) L ∧ Below w.heap.size w w' := by
  have Hlt := Lib.hid (lt_pow hx)
  refine (quoSmall_o hx h1 v V hV hv h0).mono ?_
  rintro e w' ⟨A1, n1, c1, rfl, how, hb⟩
  exact ⟨A1, n1, c1, rfl, NN.own how (Nat.lt_of_le_of_lt (Nat.div_le_self _ _) Hlt.out), hb⟩

theorem quoSmall_no {A : Option Addr} {n c : Nat} {xs : List Nat} {a L : Nat} {w : World} (hx : NN w A n c xs a L) (h1 : L ≤ 100000) (V : Int) (hV : V = 0) :
    Calls Tryz.prog 82 #[.slice A n c, .int .u32 V] w fun e w' => ∃ A1 c1, e = .returned (.tuple #[.slice A1 0 c1, .int .u32 0, .bool false]) ∧ Below w.heap.size w w' := by
  subst hV
  go_enter Tryz.func82, Tryz.ntmps82
  go_wp2
  go_ret3
  exact ⟨none, 0, rfl, Below.refl _ _⟩

end Go.Proofs.YtohciicocaoagaaGreat

/- What package quo's lessen and raise answer, as contracts over memory: a multiple of a row is taken from another one, a row is paid back. Conditions: the row that is written is the call's own, one limb longer than the other; at most 10^9 limbs. -/
namespace Go.Proofs.YtohciicocaoagaaGreat
open Go.RowKit Limb
set_option linter.unusedVariables false

set_option maxHeartbeats 1000000 in
theorem lessen_any (w0 w : World) (hb : Below w0.heap.size w0 w) (g m cs : Nat) (rs : List Nat) (how : OwnN w w0.heap.size (some ⟨g, 0, none⟩) (m + 1) cs rs)
    (A : Option Addr) (c : Nat) (bs : List Nat) (hx : IsN w0 A m bs) (v : Nat) (V : Int) (hV : V = v) (hv : v < 4294967296) (hm : m ≤ 1000000000) (t : Bool) (ht : decide (val rs < v * val bs) = t) :
    Calls Tryz.prog 107 #[.slice (some ⟨g, 0, none⟩) (m + 1) cs, .slice A m c, .int .u32 V] w fun e w' => e = .returned (.bool t) ∧
      (∃ zs tt, OwnN w' w0.heap.size (some ⟨g, 0, none⟩) (m + 1) cs zs ∧ val (zs.take m) + v * val bs = val (rs.take m) + tt * 4294967296 ^ m) ∧ Below w0.heap.size w0 w' ∧ Others g w w' := by
  subst hV
  have hBg : w0.heap.size ≤ g := by
    obtain ⟨g', e, h1, _⟩ := how.addr (by omega)
    injection e with e; injection e with e; subst e; exact h1
  have hsr := how.small
  have hsx := hx.small
  have Hxl := Lib.hid hx.len
  have Hrl := Lib.hid how.len
  have Ht := Lib.hid ht
  have Hi0 := Lib.hid (LessInv.start rs bs v)
  have How := Lib.hid how
  have Hb := Lib.hid hb
  clear ht how hb
  go_enter Tryz.func107, Tryz.ntmps107
  go_wp2
  go_loopw [13, 7, 8] (fun i cy bo wr => ∃ (k cr br : Nat) (zs : List Nat), k ≤ m ∧ i = .int .i64 (k : Int) ∧ cy = .int .u64 (cr : Int) ∧ bo = .int .u32 (br : Int) ∧ RowKit.Hid (LessInv rs bs zs v k cr br) ∧ RowKit.Hid (OwnN wr w0.heap.size (some ⟨g, 0, none⟩) (m + 1) cs zs) ∧ RowKit.Hid (Below w0.heap.size w0 wr) ∧ RowKit.Hid (Others g w wr)) (fun i _ _ _ => m - (intOf i).toNat)
  case atStart => exact ⟨0, 0, 0, rs, Nat.zero_le _, rfl, rfl, rfl, Hi0, How, Hb, Others.refl _ _⟩
  case round =>
    clear How Hb Hi0
    obtain ⟨k, cr, br, zs, hk, rfl, rfl, rfl, Hinv, How, Hb, Ho⟩ := hrel
    have hcr := Hinv.out.2.2.2.1
    have hbr := Hinv.out.2.2.2.2
    by_cases hkm : k < m
    · obtain ⟨b1, o1, rfl, hb1, hc1⟩ := hx.2.2 (by omega)
      have h1 : wr.cell? ⟨b1, o1 + k, none⟩ = some (.int .u32 ((lim bs k : Nat) : Int)) := (Hb.out.cell (p := ⟨b1, o1 + k, none⟩) hb1).trans (hc1 k hkm)
      have h3 := How.out.cell (k := k) (by omega)
      have h4 := How.out.1.frozenAt k
      have l1 := lim_lt hsx k
      have l2 := lim_lt How.out.small k
      have hq := limb_prod l1 hv
      have hq1 : ((lim bs k : Nat) : Int) * (v : Int) ≤ 18446744065119617025 := by
        have : ((lim bs k * v : Nat) : Int) ≤ 18446744065119617025 := by omega
        rwa [Int.natCast_mul] at this
      have hq0 : 0 ≤ ((lim bs k : Nat) : Int) * (v : Int) := by
        have : 0 ≤ ((lim bs k * v : Nat) : Int) := by omega
        rwa [Int.natCast_mul] at this
      obtain ⟨lo, hlo⟩ : ∃ lo, lo = (cr + lim bs k * v) % 4294967296 := ⟨_, rfl⟩
      obtain ⟨hi, hhi⟩ : ∃ hi, hi = (cr + lim bs k * v) / 4294967296 := ⟨_, rfl⟩
      have eI : ((lim bs k * v : Nat) : Int) = ((lim bs k : Nat) : Int) * (v : Int) := Int.natCast_mul _ _
      have hlo2 : lo < 4294967296 := by omega
      have hsum : cr + lim bs k * v = lo + hi * 4294967296 := by omega
      have elo : ((cr : Int) + ((lim bs k : Nat) : Int) * (v : Int)) % 4294967296 = (lo : Int) := by omega
      have ehi : ((cr : Int) + ((lim bs k : Nat) : Int) * (v : Int)) / 4294967296 = (hi : Int) := by omega
      have hdl := diffLo_lt (lim zs k) lo br
      have Hst := Lib.hid (Hinv.out.step hsr (by have := Hrl.out; omega) hsx hv hlo2 hsum)
      have Hset := Lib.hid (How.out.set k hdl)
      have Hb2 : RowKit.Hid (Below w0.heap.size w0 (wr.setCell ⟨g, k, none⟩ (.int .u32 ((diffLo (lim zs k) lo br : Nat) : Int)))) := Hb.out.setCell (by exact hBg) _
      have Ho2 : RowKit.Hid (Others g w (wr.setCell ⟨g, k, none⟩ (.int .u32 ((diffLo (lim zs k) lo br : Nat) : Int)))) := Ho.out.setCell k _
      clear hq hlo hhi hsum eI
      go_wp2_with (go_at_call 88; (with_reducible refine (sub32_nat (lim zs k) lo br _ l2 hlo2 hbr).mono ?_); rintro e w2 ⟨rfl, rfl⟩)
      go_roundw
      case rel => exact ⟨k + 1, hi, _, _, by omega, by go_num, rfl, rfl, Hst, Hset, Hb2, Ho2⟩
      case measure => simp [intOf]; omega
    · obtain rfl : k = m := by omega
      have h3 := How.out.cell (k := k) (by omega)
      have hv0 := Hinv.out.2.1
      have hl0 := Hinv.out.2.2.1 k (Nat.le_refl _)
      have hbt : bs.take k = bs := List.take_of_length_le (by rw [Hxl.out]; exact Nat.le_refl _)
      rw [hbt] at hv0
      have hzt := val_lt (small_take How.out.small k)
      rw [List.length_take, How.out.len, Nat.min_eq_left (by omega)] at hzt
      have hR : val rs = val (rs.take k) + 4294967296 ^ k * lim rs k := by
        have := val_take_lim rs k
        rwa [List.take_of_length_le (by rw [Hrl.out]; exact Nat.le_refl _)] at this
      have Htop := Lib.hid (less_top hv0 hzt hR)
      have Hv0 := Lib.hid hv0
      have l2 := lim_lt How.out.small k
      rw [← hl0] at Htop
      clear hv0 hl0 hbt hzt hR Hinv
      by_cases hlt : lim zs k < cr + br
      · have Ht2 : RowKit.Hid (t = true) := by show _ = _; rw [← Ht.out]; simpa using Htop.out.2 hlt
        have hd : decide (((lim zs k : Nat) : Int) < (cr : Int) + (br : Int)) = true := by simp; omega
        go_wp2
        go_ret
        exact ⟨ret_bool Ht2.out.symm, ⟨zs, _, How.out, Hv0.out⟩, Hb.out, Ho.out⟩
      · have Ht2 : RowKit.Hid (t = false) := by show _ = _; rw [← Ht.out]; simpa using fun h => hlt (Htop.out.1 h)
        have hd : decide (((lim zs k : Nat) : Int) < (cr : Int) + (br : Int)) = false := by simp; omega
        go_wp2
        go_ret
        exact ⟨ret_bool Ht2.out.symm, ⟨zs, _, How.out, Hv0.out⟩, Hb.out, Ho.out⟩

set_option maxHeartbeats 1000000 in
theorem raise_any (w0 w : World) (hb : Below w0.heap.size w0 w) (g m cs : Nat) (rs : List Nat) (how : OwnN w w0.heap.size (some ⟨g, 0, none⟩) (m + 1) cs rs)
    (A : Option Addr) (c : Nat) (bs : List Nat) (hx : IsN w0 A m bs) (hm : m ≤ 1000000000) :
    Calls Tryz.prog 108 #[.slice (some ⟨g, 0, none⟩) (m + 1) cs, .slice A m c] w fun e w' => e = .returned (.tuple #[]) ∧
      (∃ zs cc, OwnN w' w0.heap.size (some ⟨g, 0, none⟩) (m + 1) cs zs ∧ val (zs.take m) + cc * 4294967296 ^ m = val (rs.take m) + val bs) ∧ Below w0.heap.size w0 w' ∧ Others g w w' := by
  have hBg : w0.heap.size ≤ g := by
    obtain ⟨g', e, h1, _⟩ := how.addr (by omega)
    injection e with e; injection e with e; subst e; exact h1
  have hsr := how.small
  have hsx := hx.small
  have Hxl := Lib.hid hx.len
  have Hrl := Lib.hid how.len
  have Hi0 := Lib.hid (AddInv.start rs bs)
  have How := Lib.hid how
  have Hb := Lib.hid hb
  clear how hb
  go_enter Tryz.func108, Tryz.ntmps108
  go_wp2
  go_loopw [9, 4] (fun i cy wr => ∃ (k cr : Nat) (zs : List Nat), k ≤ m ∧ i = .int .i64 (k : Int) ∧ cy = .int .u32 (cr : Int) ∧ RowKit.Hid (AddInv rs bs zs k cr) ∧ RowKit.Hid (OwnN wr w0.heap.size (some ⟨g, 0, none⟩) (m + 1) cs zs) ∧ RowKit.Hid (Below w0.heap.size w0 wr) ∧ RowKit.Hid (Others g w wr)) (fun i _ _ => m - (intOf i).toNat)
  case atStart => exact ⟨0, 0, rs, Nat.zero_le _, rfl, rfl, Hi0, How, Hb, Others.refl _ _⟩
  case round =>
    clear How Hb Hi0
    obtain ⟨k, cr, zs, hk, rfl, rfl, Hinv, How, Hb, Ho⟩ := hrel
    have hcr := Hinv.out.2.2.2
    by_cases hkm : k < m
    · obtain ⟨b1, o1, rfl, hb1, hc1⟩ := hx.2.2 (by omega)
      have h1 : wr.cell? ⟨b1, o1 + k, none⟩ = some (.int .u32 ((lim bs k : Nat) : Int)) := (Hb.out.cell (p := ⟨b1, o1 + k, none⟩) hb1).trans (hc1 k hkm)
      have h3 := How.out.cell (k := k) (by omega)
      have h4 := How.out.1.frozenAt k
      have l1 := lim_lt hsx k
      have l2 := lim_lt How.out.small k
      have hdl := sumLo_lt (lim zs k) (lim bs k) cr
      have Hst := Lib.hid (Hinv.out.step hsr hsx (by have := Hrl.out; omega))
      have Hset := Lib.hid (How.out.set k hdl)
      have Hb2 : RowKit.Hid (Below w0.heap.size w0 (wr.setCell ⟨g, k, none⟩ (.int .u32 ((sumLo (lim zs k) (lim bs k) cr : Nat) : Int)))) := Hb.out.setCell (by exact hBg) _
      have Ho2 : RowKit.Hid (Others g w (wr.setCell ⟨g, k, none⟩ (.int .u32 ((sumLo (lim zs k) (lim bs k) cr : Nat) : Int)))) := Ho.out.setCell k _
      go_wp2_with (go_at_call 87; (with_reducible refine (add32_nat (lim zs k) (lim bs k) cr _ l2 l1 hcr).mono ?_); rintro e w2 ⟨rfl, rfl⟩)
      go_roundw
      case rel => exact ⟨k + 1, _, _, by omega, by go_num, rfl, Hst, Hset, Hb2, Ho2⟩
      case measure => simp [intOf]; omega
    · obtain rfl : k = m := by omega
      have hv0 := Hinv.out.2.1
      have hbt : bs.take k = bs := List.take_of_length_le (by rw [Hxl.out]; exact Nat.le_refl _)
      rw [hbt] at hv0
      have Hv0 := Lib.hid hv0
      clear hv0 hbt Hinv
      go_wp2
      first | go_end0 | refine bodyPost_ret (results_none rfl _ _ _) rfl ?_
      exact ⟨rfl, ⟨zs, _, How.out, Hv0.out⟩, Hb.out, Ho.out⟩

end Go.Proofs.YtohciicocaoagaaGreat

/- What package quo's guess and takeOut answer, as contracts over memory: how often a row is in another one. Conditions: the row that is written is the call's own, one limb longer than the other, and less than it times 2^32; the other one has two limbs or more, its highest bit set; at most 10^9 limbs. -/
namespace Go.Proofs.YtohciicocaoagaaGreat
open Go.RowKit Limb
set_option linter.unusedVariables false

theorem guessV_dec {top high next r2 o p : Nat} (ho : guessO top high = o) (h1 : top - o * high ≤ 4294967295) (h2 : (top - o * high) * 4294967296 + r2 < o * next) (hp : o = p + 1) : guessV top high next r2 = p := by
  unfold guessV guessT
  rw [ho]
  simp [h1, h2]
  omega
theorem guessV_far {top high next r2 o : Nat} (ho : guessO top high = o) (h1 : ¬ top - o * high ≤ 4294967295) : guessV top high next r2 = o := by
  unfold guessV guessT
  rw [ho]
  simp [h1]
theorem guessV_stay {top high next r2 o : Nat} (ho : guessO top high = o) (h2 : ¬ (top - o * high) * 4294967296 + r2 < o * next) : guessV top high next r2 = o := by
  unfold guessV guessT
  rw [ho]
  simp [h2]

/-- Memory is as it was. -/
def Still (w w' : World) : Prop := Below w.heap.size w w' ∧ ∀ g, Others g w w'
theorem still_drewN {a w : World} (h : Still a w) (n : Nat) : Still a (w.drewN n) := ⟨below_drewN h.1 n, h.2⟩
theorem still_refl (w : World) : Still w w := ⟨Below.refl _ _, fun _ => Others.refl _ _⟩

theorem nat_le_atom {a b : Nat} {x y : Int} (h : a ≤ b) (hx : x = (a : Int)) (hy : y = (b : Int)) : x ≤ y := by omega

set_option maxHeartbeats 2000000 in
theorem guess_any (w : World) (A : Option Addr) (n c : Nat) (rs : List Nat) (hr : IsN w A (n + 1) rs) (A' : Option Addr) (c' : Nat) (bs : List Nat) (hx : IsN w A' n bs) (hn : 2 ≤ n) (hm : n ≤ 1000000000) (hh : 0 < lim bs (n - 1)) (q : Nat)
    (hq : guessV (lim rs n * 4294967296 + lim rs (n - 1)) (lim bs (n - 1)) (lim bs (n - 2)) (lim rs (n - 2)) = q) :
    Calls Tryz.prog 106 #[.slice A (n + 1) c, .slice A' n c'] w fun e w' => e = .returned (.int .u32 (q : Int)) ∧ Still w w' := by
  obtain ⟨b1, o1, rfl, hb1, hc1⟩ := hr.2.2 (by omega)
  obtain ⟨b2, o2, rfl, hb2, hc2⟩ := hx.2.2 (by omega)
  have r0 := hc1 n (by omega)
  have r1 := hc1 (n - 1) (by omega)
  have r2 := hc1 (n - 2) (by omega)
  have x1 := hc2 (n - 1) (by omega)
  have x2 := hc2 (n - 2) (by omega)
  have l0 := lim_lt hr.small n
  have l1 := lim_lt hr.small (n - 1)
  have l2 := lim_lt hr.small (n - 2)
  have m1 := lim_lt hx.small (n - 1)
  have m2 := lim_lt hx.small (n - 2)
  have Hq := Lib.hid hq
  clear hq hr hx hc1 hc2
  obtain ⟨high, hhi⟩ : ∃ h, h = lim bs (n - 1) := ⟨_, rfl⟩
  obtain ⟨next, hne⟩ : ∃ h, h = lim bs (n - 2) := ⟨_, rfl⟩
  obtain ⟨t0, ht0⟩ : ∃ h, h = lim rs n := ⟨_, rfl⟩
  obtain ⟨t1, ht1⟩ : ∃ h, h = lim rs (n - 1) := ⟨_, rfl⟩
  obtain ⟨t2, ht2⟩ : ∃ h, h = lim rs (n - 2) := ⟨_, rfl⟩
  rw [← hhi] at x1 m1 hh Hq
  rw [← hne] at x2 m2 Hq
  rw [← ht0] at r0 l0 Hq
  rw [← ht1] at r1 l1 Hq
  rw [← ht2] at r2 l2 Hq
  clear hhi hne ht0 ht1 ht2
  have htop : bits BinOp.or IntKind.u64 ((t0 : Int) * 4294967296) (t1 : Int) = ((t0 * 4294967296 + t1 : Nat) : Int) := or_hi32 t0 t1 l0 l1
  have htl : t0 * 4294967296 + t1 < 18446744073709551616 := by omega
  obtain ⟨top, htp⟩ : ∃ h, h = t0 * 4294967296 + t1 := ⟨_, rfl⟩
  rw [← htp] at htop htl Hq
  clear htp
  go_enter Tryz.func106, Tryz.ntmps106
  go_wp2
  go_quiet (fail)
  have hw := Lib.hid (still_drewN (still_refl w) nq)
  have r0' : (w.drewN nq).cell? ⟨b1, o1 + n, none⟩ = some (.int .u32 (t0 : Int)) := r0
  have r1' : (w.drewN nq).cell? ⟨b1, o1 + (n - 1), none⟩ = some (.int .u32 (t1 : Int)) := r1
  have r2' : (w.drewN nq).cell? ⟨b1, o1 + (n - 2), none⟩ = some (.int .u32 (t2 : Int)) := r2
  clear r0 r1 r2 x1 x2
  generalize w.drewN nq = w2 at *
  go_wp2
  go_quiet (fail)
  replace hw := Lib.hid (still_drewN hw.out nq)
  have r2 : (w2.drewN nq).cell? ⟨b1, o1 + (n - 2), none⟩ = some (.int .u32 (t2 : Int)) := r2'
  clear r0' r1' r2' htop
  generalize w2.drewN nq = w3 at *
  have hom := guessO_mul top high
  have hol := guessO_le top high
  obtain ⟨o, ho⟩ : ∃ o, guessO top high = o := ⟨_, rfl⟩
  have Ho := Lib.hid ho
  rw [ho] at hom hol
  obtain ⟨oh, hoh⟩ : ∃ x, x = o * high := ⟨_, rfl⟩
  obtain ⟨on, hon⟩ : ∃ x, x = o * next := ⟨_, rfl⟩
  have eoh : (o : Int) * (high : Int) = (oh : Int) := by rw [hoh]; exact (Int.natCast_mul _ _).symm
  have eon : (o : Int) * (next : Int) = (on : Int) := by rw [hon]; exact (Int.natCast_mul _ _).symm
  have hon2 : on ≤ 18446744065119617025 := by rw [hon]; exact Nat.mul_le_mul hol (show next ≤ 4294967295 by omega)
  rw [← hoh] at hom
  obtain ⟨left, hleft⟩ : ∃ x, x = top - oh := ⟨_, rfl⟩
  have eleft : (top : Int) - (oh : Int) = (left : Int) := by omega
  have hh1 : ((high : Int) == 0) = false := by simp; omega
  have Hfar : RowKit.Hid (¬ left ≤ 4294967295 → q = o) := fun h => by rw [← Hq.out]; exact guessV_far Ho.out (by rw [← hoh, ← hleft]; exact h)
  have Hstay : RowKit.Hid (¬ left * 4294967296 + t2 < on → q = o) := fun h => by rw [← Hq.out]; exact guessV_stay Ho.out (by rw [← hoh, ← hleft, ← hon]; exact h)
  have Hdec : RowKit.Hid (left ≤ 4294967295 → left * 4294967296 + t2 < on → ∀ p, o = p + 1 → q = p) := fun h1 h2 p hp => by
    rw [← Hq.out]; exact guessV_dec Ho.out (by rw [← hoh, ← hleft]; exact h1) (by rw [← hoh, ← hleft, ← hon]; exact h2) hp
  have hlt : left ≤ top := by omega
  obtain ⟨tq, htq⟩ : ∃ x, x = top / high := ⟨_, rfl⟩
  have etq : (top : Int) / (high : Int) = (tq : Int) := by rw [htq]; simp
  have htq2 : tq ≤ top := by rw [htq]; exact Nat.div_le_self _ _
  have homin : o = min tq 4294967295 := by rw [htq]; exact ho.symm
  clear ho hoh hon hleft htq Hq Ho
  obtain ⟨s, hs⟩ : ∃ x, x = left * 4294967296 + t2 := ⟨_, rfl⟩
  rw [← hs] at Hstay Hdec
  have Hs : RowKit.Hid (left ≤ 4294967295 → bits BinOp.or IntKind.u64 ((left : Int) * 4294967296) (t2 : Int) = (s : Int)) := fun h => by rw [hs]; exact or_hi32 left t2 (by omega) l2
  have Hon0 : RowKit.Hid (s < on → o ≠ 0) := by
    intro h h0
    rw [h0] at eon
    simp at eon
    omega
  clear hs
  by_cases hc : tq ≤ 4294967295
  case' pos =>
    obtain rfl : o = tq := by rw [homin]; exact Nat.min_eq_left hc
    have Hp : RowKit.Hid (s < on → ∃ p : Nat, o = p + 1 ∧ (o : Int) - 1 = (p : Int)) := fun h => ⟨o - 1, by have := Hon0.out h; omega, by have := Hon0.out h; omega⟩
    have ho : (o : Int) = (o : Int) := rfl
  case' neg =>
    obtain rfl : o = 4294967295 := by rw [homin]; exact Nat.min_eq_right (by omega)
    replace eoh : (4294967295 : Int) * (high : Int) = (oh : Int) := eoh
    replace eon : (4294967295 : Int) * (next : Int) = (on : Int) := eon
    have Hp : RowKit.Hid (s < on → ∃ p : Nat, 4294967295 = p + 1 ∧ (4294967295 : Int) - 1 = (p : Int)) := fun h => ⟨4294967294, by omega, by omega⟩
    have ho : (4294967295 : Int) = ((4294967295 : Nat) : Int) := rfl
  all_goals
    clear homin Hon0
    have Hho := Lib.hid ho
    clear ho
    by_cases c1 : left ≤ 4294967295
    · have hor := Hs.out c1
      by_cases c2 : s < on
      · obtain ⟨p, hp1, hp2⟩ := Hp.out c2
        have Hr : RowKit.Hid (q = p) := Hdec.out c1 c2 p hp1
        have Hp1 := Lib.hid hp1
        clear Hdec Hfar Hstay Hp hp1
        go_wp2
        go_ret
        exact ⟨ret_int (by first | (rw [Hr.out]; done) | (rw [Hr.out]; omega)), hw.out⟩
      · have Hr := Lib.hid (Hstay.out c2)
        have c3 : on ≤ s := by omega
        clear Hdec Hfar Hstay Hp c2
        go_wp2
        go_ret
        exact ⟨ret_int (by first | (rw [Hr.out]; done) | (rw [Hr.out]; omega)), hw.out⟩
    · have Hr := Lib.hid (Hfar.out c1)
      have c3 : 4294967295 < left := by omega
      clear Hdec Hfar Hstay Hp c1
      go_wp2
      go_ret
      exact ⟨ret_int (by first | (rw [Hr.out]; done) | (rw [Hr.out]; omega)), hw.out⟩

set_option maxHeartbeats 1000000 in
theorem takeOut_any (w0 w : World) (hb : Below w0.heap.size w0 w) (g m cs : Nat) (rs : List Nat) (how : OwnN w w0.heap.size (some ⟨g, 0, none⟩) (m + 1) cs rs)
    (A : Option Addr) (c : Nat) (bs : List Nat) (hx : IsN w0 A m bs) (hm2 : 2 ≤ m) (hm : m ≤ 1000000000) (hh : 2147483648 ≤ lim bs (m - 1)) (hlt : val rs < val bs * 4294967296) (q : Nat) (hq : val rs / val bs = q) :
    Calls Tryz.prog 101 #[.slice (some ⟨g, 0, none⟩) (m + 1) cs, .slice A m c] w fun e w' => e = .returned (.int .u32 (q : Int)) ∧
      (∃ zs, OwnN w' w0.heap.size (some ⟨g, 0, none⟩) (m + 1) cs zs ∧ val (zs.take m) = val rs % val bs) ∧ Below w0.heap.size w0 w' ∧ Others g w w' := by
  have hrl := how.len
  have hbl := hx.len
  obtain ⟨G, hG⟩ : ∃ G, guessV (lim rs m * 4294967296 + lim rs (m - 1)) (lim bs (m - 1)) (lim bs (m - 2)) (lim rs (m - 2)) = G := ⟨_, rfl⟩
  obtain ⟨g1, g2, g3⟩ := guess_ok how.small hx.small hm2 hrl hbl hh hlt hG
  rw [hq] at g1 g2
  have hR : val rs = val (rs.take m) + 4294967296 ^ m * lim rs m := by
    have := val_take_lim rs m
    rwa [List.take_of_length_le (by rw [hrl]; exact Nat.le_refl _)] at this
  have hdm := Nat.div_add_mod (val rs) (val bs)
  rw [hq] at hdm
  have hb0 : 0 < val bs := by
    rcases Nat.eq_zero_or_pos (val bs) with h | h
    · rw [h] at hlt; omega
    · exact h
  have hml := Nat.mod_lt (val rs) hb0
  have hbP := val_lt hx.small
  rw [hbl] at hbP
  have hr : val rs = q * val bs + val rs % val bs := by rw [Nat.mul_comm]; exact hdm.symm
  have HR := Lib.hid hR
  have Hr := Lib.hid hr
  have HrP := Lib.hid (Nat.lt_trans hml hbP)
  have Hml := Lib.hid hml
  have HG := Lib.hid hG
  have hi1 := how.isN
  have hi2 := hx.below hb
  have Hhow := Lib.hid how
  have Hb := Lib.hid hb
  have Hx := Lib.hid hx
  have hG4 : G < 4294967296 := by omega
  clear hR hdm hq hr hml hbP hG hrl hbl how hb hlt
  go_enter Tryz.func101, Tryz.ntmps101
  go_wp2_with fail
  refine (guess_any w (some ⟨g, 0, none⟩) m cs rs hi1 A c bs hi2 hm2 hm (by omega) G HG.out).mono ?_
  rintro e w1 ⟨rfl, hst⟩
  have Hhow1 := Lib.hid (Hhow.out.below hst.1 (Nat.le_refl _))
  have Hb1 := Lib.hid (Hb.out.trans (hst.1.mono Hb.out.size))
  have Ho1 := Lib.hid (hst.2 g)
  clear hst Hhow Hb hi1 hi2
  by_cases hc : G = q
  · subst hc
    have Hf : RowKit.Hid (decide (val rs < G * val bs) = false) := by
      show _ = _
      rw [decide_eq_false_iff_not]; have := Hr.out; omega
    go_wp2_with fail
    refine (lessen_any w0 w1 Hb1.out g m cs rs Hhow1.out A c bs Hx.out G _ rfl hG4 hm false Hf.out).mono ?_
    rintro e w2 ⟨rfl, ⟨zs, tt, hz, hv⟩, hb2, ho2⟩
    have Hz := Lib.hid hz
    have hzt := val_lt (small_take hz.small m)
    rw [List.length_take, hz.len, Nat.min_eq_left (by omega)] at hzt
    have Hv := Lib.hid (less_fits hv hzt HR.out Hr.out HrP.out)
    have Hb2 := Lib.hid hb2
    have Ho2 := Lib.hid (show Others g w w2 from fun k hk => (ho2 k hk).trans (Ho1.out k hk))
    clear hz hzt hv hb2 ho2
    go_wp2
    go_ret
    exact ⟨rfl, ⟨zs, Hz.out, Hv.out⟩, Hb2.out, Ho2.out⟩
  · obtain rfl : G = q + 1 := by omega
    have Hf : RowKit.Hid (decide (val rs < (q + 1) * val bs) = true) := by
      show _ = _
      rw [decide_eq_true_iff, Nat.add_mul, Nat.one_mul]; have := Hr.out; have := Hml.out; omega
    go_wp2_with fail
    refine (lessen_any w0 w1 Hb1.out g m cs rs Hhow1.out A c bs Hx.out (q + 1) _ (by omega) hG4 hm true Hf.out).mono ?_
    rintro e w2 ⟨rfl, ⟨zs, tt, hz, hv⟩, hb2, ho2⟩
    have hv' := hv
    rw [Nat.add_mul, Nat.one_mul] at hv'
    have Hv := Lib.hid hv'
    have Ho2 := Lib.hid (show Others g w w2 from fun k hk => (ho2 k hk).trans (Ho1.out k hk))
    clear hv hv' ho2
    go_wp2_with fail
    refine (raise_any w0 w2 hb2 g m cs zs hz A c bs Hx.out hm).mono ?_
    rintro e w3 ⟨rfl, ⟨ys, cc, hy, hv2⟩, hb3, ho3⟩
    have hyt := val_lt (small_take hy.small m)
    rw [List.length_take, hy.len, Nat.min_eq_left (by omega)] at hyt
    have Hv2 := Lib.hid (less_back Hv.out HR.out Hr.out HrP.out hv2 hyt)
    have Hy := Lib.hid hy
    have Hb3 := Lib.hid hb3
    have Ho3 := Lib.hid (show Others g w w3 from fun k hk => (ho3 k hk).trans (Ho2.out k hk))
    clear hz hv2 hy hb2 hb3 ho3 hyt
    go_wp2
    go_ret
    exact ⟨ret_int (by omega), ⟨ys, Hy.out, Hv2.out⟩, Hb3.out, Ho3.out⟩

end Go.Proofs.YtohciicocaoagaaGreat

/- What package quo's divide answers, as a contract over memory: the quotient in its shortest limbs, and what is left. Conditions: both read as limbs; the divisor has two limbs or more, its highest bit set, and is not longer than the number; at most 10^8 limbs. -/
namespace Go.Proofs.YtohciicocaoagaaGreat
open Go.RowKit Limb
set_option linter.unusedVariables false

/-- copy of limbs into a row of the call's own, as one step of a region that draws its order. -/
theorem step_copy_nat {w : World} {ops : Array Oper} {o : Oper} {a : Act} {K : Act → World → Prop} {Q : Exit → Act → World → Prop} {E : Prop} (hgd : o.guard = none) (d s : Operand)
    (ho : o.op = .call { callee := .builtin .copy, args := #[d, s], argTypes := #[23, 23] })
    (g off dLen dCap : Nat) (sp : Option Addr) (sLen sCap : Nat) (hd : a.eval d = .slice (some ⟨g, off, none⟩) dLen dCap) (hs : a.eval s = .slice sp sLen sCap)
    (B n : Nat) (zs : List Nat) (hown : Hid (OwnN w B (some ⟨g, 0, none⟩) n n zs)) (ys : List Nat) (hy : Hid (IsN w sp sLen ys)) (hlen : Hid (0 < sLen ∧ sLen ≤ dLen ∧ off + sLen ≤ n))
    (h : ∀ w', Hid (OwnN w' B (some ⟨g, 0, none⟩) n n (lay zs off ys)) → Hid (Others g w w') → Hid (∀ w0, Below B w0 w → Below B w0 w') → K (a.put o.dst (goInt sLen)) w') :
    if Region.wanted o (yielded ops a.tmps) = true then Oper.wp Tryz.prog o a w K Q else E := by
  have hw : Region.wanted o (yielded ops a.tmps) = true := by simp [Region.wanted, hgd]
  rw [if_pos hw]
  have hyl := hy.out.len
  obtain ⟨h0, h1, h2⟩ := hlen.out
  obtain ⟨b, ob, rfl, hb1, hcell⟩ := hy.out.2.2 (by omega)
  have hzl := hown.out.len
  rcases hown.out.1.2 with ⟨hv, _⟩ | ⟨g2, cap, cur, hv, hg, hh, h3, h4, h5, h6⟩
  · cases hv
  · injection hv with e1 e2 e3
    injection e1 with e1
    injection e1 with e1
    subst e1
    subst e3
    rw [Nat.mul_one] at h5 h6
    have hcur : cur.toList = zs.map limV := by rw [← h6, List.take_of_length_le (by simp [h5])]
    have hb : ∀ w0, Below B w0 w → Below B w0 (w.setRow g (cur.toList.take off ++ ((ys.map limV) ++ cur.toList.drop (off + (ys.map limV).length))).toArray) := fun w0 hb => below_setRow hb hg _
    have ho' : Others g w (w.setRow g (cur.toList.take off ++ ((ys.map limV) ++ cur.toList.drop (off + (ys.map limV).length))).toArray) := fun k hk => setRow_other w g k _ hk
    have hn : OwnN (w.setRow g (cur.toList.take off ++ ((ys.map limV) ++ cur.toList.drop (off + (ys.map limV).length))).toArray) B (some ⟨g, 0, none⟩) n n (lay zs off ys) := by
      have hl2 : (lay zs off ys).length = n := by rw [lay_length (by omega), hzl]
      refine ⟨⟨by simp [hl2], .inr ⟨g, n, _, rfl, hg, setRow_heap w g _ _ _ _ hh, Nat.le_refl _, h4, ?_, ?_⟩⟩, lay_small hown.out.small hy.out.small⟩
      · rw [hcur]; simp; omega
      · rw [hcur, List.take_of_length_le (by simp; omega)]
        simp [lay, List.map_append, List.map_take, List.map_drop]
    have e2 : goInt (ys.map limV).length = goInt sLen := by rw [List.length_map, hyl]
    have hrun := run_copy_row (P := Tryz.prog) w 23 23 o.type 43 g off dLen dCap ⟨b, ob, none⟩ sLen sCap cur 43 (ys.map limV) Tryz.underlying23 u32_size hh (by rw [List.length_map, hyl]; exact (Nat.min_eq_left h1).symm) ?_ ?_ (oneCell_u32 ys)
    · unfold Oper.wp
      simp only [execOp, ho, resolve, invoke, builtin, Sem.run_bind, Sem.run_pure, Result.andThen_ok, List.map_toArray, List.map_cons, List.map_nil, hd, hs, hrun]
      rw [e2, List.append_assoc]
      exact h _ hn ho' hb
    · intro j v hv
      obtain ⟨hj, rfl⟩ := map_u32_get hv
      have e : (⟨b, ob, none⟩ : Addr).add j = ⟨b, ob + j, none⟩ := by unfold Addr.add; split <;> simp_all
      rw [e]
      exact hcell j (by omega)
    · rw [h5]; simp; omega

theorem lay_start (xs : List Nat) (m : Nat) (h : xs.length + 1 = m) : lay (List.replicate (m + 1) 0) 0 xs = xs ++ [0, 0] := by
  simp only [lay, List.take_zero, List.nil_append, Nat.zero_add, List.drop_replicate]
  rw [show m + 1 - xs.length = 2 by omega]
  rfl

/-- Moved up by one limb, with another one below. -/
theorem lay_up (rs : List Nat) (m x : Nat) (h : rs.length = m + 1) : (lay rs 1 (rs.take m)).set 0 x = x :: rs.take m := by
  cases rs with
  | nil => simp at h
  | cons r rs => simp [lay]; simp at h; omega

set_option maxHeartbeats 2000000 in
theorem divide_any (A : Option Addr) (n c : Nat) (xs : List Nat) (A' : Option Addr) (m c' : Nat) (ys : List Nat) (w : World) (hx : IsN w A n xs) (hy : IsN w A' m ys) (hn : n ≤ 100000000) (hc : n ≤ c) (hm2 : 2 ≤ m) (hmn : m ≤ n) (hh : 2147483648 ≤ lim ys (m - 1)) :
    Calls Tryz.prog 84 #[.slice A n c, .slice A' m c'] w fun e w' => ∃ A1 n1 c1 A2 c2 zs, e = .returned (.tuple #[.slice A1 n1 c1, .slice A2 m c2]) ∧ OwnN w' w.heap.size A1 n1 c1 (limbs (val xs / val ys)) ∧
      (OwnN w' w.heap.size A2 m c2 zs ∧ val zs = val xs % val ys) ∧ Below w.heap.size w w' := by
  obtain ⟨s, hs⟩ : ∃ s, s = n - m + 1 := ⟨_, rfl⟩
  have es : (n : Int) - (m : Int) + 1 = (s : Int) := by omega
  have hs1 : s + m = n + 1 := by omega
  clear hs
  obtain ⟨b1, o1, rfl, hb1, hc1⟩ := hx.2.2 (by omega)
  have hsrc : IsN w (some ⟨b1, o1 + s, none⟩) (m - 1) (xs.drop s) := by
    refine ⟨by rw [List.length_drop, hx.len]; omega, small_drop hx.small _, fun _ => ⟨b1, o1 + s, rfl, hb1, fun j hj => ?_⟩⟩
    rw [lim_drop, Nat.add_assoc]
    exact hc1 (s + j) (by omega)
  have e1 : n - s = m - 1 := by omega
  have hsn : s < n := by omega
  have hmk1 := run_made ((m : Int) + 1) (m + 1) (by omega) (by omega)
  have hmk2 := run_made (s : Int) s rfl (by omega)
  have b2 := below_new w (.cells (madeCells #[.int .u32 0] (m + 1)) 43)
  have Hs := Lib.hid (own_made w (m + 1) (by omega))
  have Hu := Lib.hid (hsrc.below b2)
  have Hb2 := Lib.hid b2
  have Hlen2 : RowKit.Hid (m - 1 ≤ m + 1 ∧ 0 + (m - 1) ≤ m + 1) := ⟨by omega, by omega⟩
  have Hst := Lib.hid (DivInv.start hx.small (by rw [hx.len]; exact hs1) hm2 hy.len (by omega : 0 < lim ys (m - 1)))
  have Hlay := Lib.hid (lay_start (xs.drop s) m (by rw [hsrc.len]; omega))
  have Hxl := Lib.hid hx.len
  have hsx := hx.small
  clear b2 hsrc
  go_enter Tryz.func84, Tryz.ntmps84
  go_wp2_with (with_reducible refine wpList_copy_nat rfl (.tmp 20) (.tmp 23) rfl w.heap.size 0 (m + 1) (m + 1) (some ⟨b1, o1 + s, none⟩) (m - 1) (c - s) rfl rfl w.heap.size (m + 1) (List.replicate (m + 1) 0) Hs (xs.drop s) Hu Hlen2 ?_)
  intro w3 Ho Hoth Hbel
  rw [Hlay.out] at Ho
  have Hb3 := Lib.hid (Hbel.out w Hb2.out)
  clear Hs Hu Hb2 Hlen2 Hoth Hbel hmk1 Hlay
  have b4 := below_new w3 (.cells (madeCells #[.int .u32 0] s) 43)
  have Hq := Lib.hid ((own_made w3 s (by omega)).mono Hb3.out.size)
  have Hr := Lib.hid (Ho.out.below b4 (Nat.le_refl _))
  have Hb4 := Lib.hid (below_two Hb3.out b4)
  obtain ⟨g2, hg2⟩ : ∃ g2, g2 = w3.heap.size := ⟨_, rfl⟩
  have hgg : w.heap.size < g2 := by
    obtain ⟨g', e, _, h⟩ := Ho.out.addr (by omega)
    injection e with e; injection e with e; subst e; omega
  have Hg2 := Lib.hid hg2
  rw [← hg2] at Hq
  clear b4 Ho Hb3 hg2
  go_wp2
  rw [← Hg2.out]
  have HR := Hr
  go_loopw [9] (fun i wr => ∃ (k : Nat) (rs qs : List Nat), k ≤ s ∧ i = .int .i64 ((k : Int) - 1) ∧ RowKit.Hid (DivInv xs ys rs qs m k) ∧ RowKit.Hid (OwnN wr w.heap.size (some ⟨w.heap.size, 0, none⟩) (m + 1) (m + 1) rs) ∧
    RowKit.Hid (OwnN wr w.heap.size (some ⟨g2, 0, none⟩) s s qs) ∧ RowKit.Hid (Below w.heap.size w wr)) (fun i _ => (intOf i + 1).toNat)
  case atStart => exact ⟨s, _, _, Nat.le_refl _, rfl, Hst, Hr, Hq, Hb4⟩
  case round =>
    clear Hst Hr Hq Hb4 HR hmk2
    obtain ⟨k, rs, qs, hk, rfl, Hinv, Hr, Hq, Hb⟩ := hrel
    by_cases hk0 : k = 0
    · subst hk0
      have hd := Hinv.out.done
      have Hd1 := Lib.hid hd.1
      have hr0 := Hr.out.take (m := m) (by omega)
      have Hr0 := Lib.hid hr0
      have Hd2 := Lib.hid hd.2
      have hz := Hq.out.isN
      have hsz := Hq.out.small
      have Hbs := Lib.hid Hb.out.size
      clear hd hr0 Hinv Hr
      have hle2 : (m : Int) ≤ (m : Int) + 1 := by omega
      go_wp2
      go_region_with (go_at_call 66; refine (trim_any (some ⟨g2, 0, none⟩) s s qs _ (hz.below (Below.refl _ _).drew) (Nat.le_refl _) (by omega)).mono ?_; rintro e w5 ⟨A1, n1, c1, rfl, how, hb5⟩)
      all_goals
        have How : RowKit.Hid (OwnN w5 w.heap.size A1 n1 c1 (limbs (val xs / val ys))) := by
          rw [trim_eq_limbs hsz, Hd1.out] at how
          exact how.mono Hbs.out
        have Hr9 : RowKit.Hid (OwnN w5 w.heap.size (some ⟨w.heap.size, 0, none⟩) m (m + 1) (rs.take m)) := Hr0.out.below (C := wr.heap.size) ((Below.refl wr.heap.size wr).drew.trans hb5) (Nat.le_refl _)
        have HW : RowKit.Hid (Below w.heap.size w w5) := Hb.out.trans (((Below.refl wr.heap.size wr).drew.trans hb5).mono Hbs.out)
        clear how hb5 hz hsz Hq Hb Hr0
        go_wp2
        go_ret2
        exact ⟨_, _, _, _, _, rs.take m, rfl, How.out, ⟨Hr9.out, Hd2.out⟩, HW.out⟩
    · obtain ⟨j, rfl⟩ : ∃ j, k = j + 1 := ⟨k - 1, by omega⟩
      have ej : ((j + 1 : Nat) : Int) - 1 = (j : Int) := by omega
      rw [ej]
      have Hr1 : RowKit.Hid (OwnN wr.drew w.heap.size (some ⟨w.heap.size, 0, none⟩) (m + 1) (m + 1) rs) := Hr.out.below (C := _) (Below.refl _ _).drew (Nat.le_refl _)
      have Hq1 : RowKit.Hid (OwnN wr.drew w.heap.size (some ⟨g2, 0, none⟩) s s qs) := Hq.out.below (C := _) (Below.refl _ _).drew (Nat.le_refl _)
      have Hb1 : RowKit.Hid (Below w.heap.size w wr.drew) := Hb.out.drew
      have Hsrc := Lib.hid ((Hr1.out.isN).take (m := m) (by omega))
      have Hl2 : RowKit.Hid (0 < m ∧ m ≤ m ∧ 1 + m ≤ m + 1) := ⟨by omega, by omega, by omega⟩
      have Hrl := Lib.hid Hr.out.len
      have hle : 1 ≤ (m : Int) + 1 := by omega
      have hle2 : (m : Int) ≤ (m : Int) + 1 := by omega
      have hm0 : m ≠ 0 := by omega
      clear ej Hr Hq Hb
      go_wp2
      go_region_law ((refine step_copy_nat rfl (.tmp 34) (.tmp 37) rfl w.heap.size 1 m m (some ⟨w.heap.size, 0, none⟩) m (m + 1) (by simp [Act.eval, Act.put]) (by simp [Act.eval, Act.put]) w.heap.size (m + 1) rs Hr1 (rs.take m) Hsrc Hl2 ?_; intro w4 Hr4 Ho4 Hbel4))
      all_goals
        have Hb4 := Lib.hid (Hbel4.out w Hb1.out)
        have Hq4 : RowKit.Hid (OwnN w4 w.heap.size (some ⟨g2, 0, none⟩) s s qs) := Hq1.out.others Ho4.out (by intro b o t e; injection e with e; injection e with e; omega)
        have l1 := lim_lt hsx j
        have hcx : w4.cell? ⟨b1, o1 + j, none⟩ = some (.int .u32 ((lim xs j : Nat) : Int)) := (Hb4.out.cell (p := ⟨b1, o1 + j, none⟩) hb1).trans (hc1 j (by omega))
        have f4 := Hr4.out.1.frozenAt 0
        have c4 := Hr4.out.cell (k := 0) (by omega)
        have Hset : RowKit.Hid (OwnN (w4.setCell ⟨w.heap.size, 0, none⟩ (.int .u32 ((lim xs j : Nat) : Int))) w.heap.size (some ⟨w.heap.size, 0, none⟩) (m + 1) (m + 1) (lim xs j :: rs.take m)) := by
          have h := Hr4.out.set 0 l1
          rw [lay_up rs m _ Hrl.out] at h
          exact h
        have Hb5 : RowKit.Hid (Below w.heap.size w (w4.setCell ⟨w.heap.size, 0, none⟩ (.int .u32 ((lim xs j : Nat) : Int)))) := Hb4.out.setCell (by exact Nat.le_refl _) _
        have Hq5 : RowKit.Hid (OwnN (w4.setCell ⟨w.heap.size, 0, none⟩ (.int .u32 ((lim xs j : Nat) : Int))) w.heap.size (some ⟨g2, 0, none⟩) s s qs) := Hq4.out.others ((Others.refl w.heap.size w4).setCell 0 _) (by intro b o t e; injection e with e; injection e with e; omega)
        have hlt := Hinv.out.lt l1
        have hb0 : 0 < val ys := Nat.lt_of_le_of_lt (Nat.zero_le _) Hinv.out.2
        obtain ⟨q, hq⟩ : ∃ q, val (lim xs j :: rs.take m) / val ys = q := ⟨_, rfl⟩
        have hq4 : q < 4294967296 := by rw [← hq, Nat.div_lt_iff_lt_mul hb0, Nat.mul_comm]; exact hlt
        have Hlt := Lib.hid hlt
        have Hqe := Lib.hid hq
        have hm9 : m ≤ 1000000000 := by omega
        clear Ho4 Hbel4 Hb1 Hq1 Hr1 Hsrc Hl2 Hb4 Hq4 Hr4 hlt hq hb0
        go_wp2_with fail
        refine (takeOut_any w _ Hb5.out w.heap.size m (m + 1) _ Hset.out A' c' ys hy hm2 hm9 hh Hlt.out q Hqe.out).mono ?_
        rintro e w6 ⟨rfl, ⟨zs, hz, hv⟩, hb6, ho6⟩
        have Hq6 : RowKit.Hid (OwnN w6 w.heap.size (some ⟨g2, 0, none⟩) s s qs) := Hq5.out.others ho6 (by intro b o t e; injection e with e; injection e with e; omega)
        have f6 := Hq6.out.1.frozenAt j
        have c6 := Hq6.out.cell (k := j) (by omega)
        have Hq7 := Lib.hid (Hq6.out.set j hq4)
        have Hr7 : RowKit.Hid (OwnN (w6.setCell ⟨g2, j, none⟩ (.int .u32 (q : Int))) w.heap.size (some ⟨w.heap.size, 0, none⟩) (m + 1) (m + 1) zs) := hz.others ((Others.refl g2 w6).setCell j _) (by intro b o t e; injection e with e; injection e with e; omega)
        have Hb7 : RowKit.Hid (Below w.heap.size w (w6.setCell ⟨g2, j, none⟩ (.int .u32 (q : Int)))) := hb6.setCell (by exact Nat.le_of_lt hgg) _
        have Hst : RowKit.Hid (DivInv xs ys zs (qs.set j q) m j) := by
          have h := Hinv.out.step (by rw [Hxl.out]; omega) (by rw [Hq6.out.len]; omega) hv
          rw [Hqe.out] at h
          exact h
        clear hz hv hb6 ho6 Hq6 Hq5 Hb5 Hset Hlt Hqe Hinv
        go_wp2
        go_roundw
        case rel => exact ⟨j, zs, qs.set j q, by omega, by go_num, Hst, Hr7, Hq7, Hb7⟩
        case measure => simp [intOf] <;> omega

end Go.Proofs.YtohciicocaoagaaGreat

/- What package quo's Rem answers, as contracts over memory: the quotient and what is left, in their shortest limbs, or nothing if the divisor is 0. Conditions: both lists read as limbs, of at most 10^5 of them. -/
namespace Go.Proofs.YtohciicocaoagaaGreat.Limb

theorem top_limb {b k : Nat} (hk : (limbs b).length = k + 1) : lim (limbs b) k = b / 4294967296 ^ k ∧ 1 ≤ b / 4294967296 ^ k ∧ b / 4294967296 ^ k < 4294967296 := by
  have hb : b ≠ 0 := by intro h; rw [h, limbs_zero] at hk; simp at hk
  have h1 := length_limbs_pred hb
  rw [hk, Nat.add_sub_cancel] at h1
  have h2 := val_lt (small_limbs b)
  rw [val_limbs, hk, Nat.pow_succ] at h2
  have h3 := lim_eq_div (limbs b) (small_limbs b) k
  rw [val_limbs] at h3
  have hP : 0 < 4294967296 ^ k := Nat.pow_pos (by decide)
  have h4 : b / 4294967296 ^ k < 4294967296 := by rw [Nat.div_lt_iff_lt_mul hP, Nat.mul_comm]; exact h2
  rw [Nat.mod_eq_of_lt h4] at h3
  exact ⟨h3.symm, (Nat.le_div_iff_mul_le hP).2 (by omega), h4⟩

/-- Moved up till the highest bit is set a number has as many limbs. -/
theorem norm_ok {b k f : Nat} (hk : (limbs b).length = k + 1) (hf : f + blen (lim (limbs b) k) = 32) : (limbs (b * 2 ^ f)).length = k + 1 ∧ 2147483648 ≤ lim (limbs (b * 2 ^ f)) k := by
  obtain ⟨e, h1, h2⟩ := top_limb hk
  rw [e] at hf
  have hP : 0 < 4294967296 ^ k := Nat.pow_pos (by decide)
  have h3 := Nat.div_mul_le_self b (4294967296 ^ k)
  have h4 := Nat.lt_mul_div_succ b hP
  generalize b / 4294967296 ^ k = t at *
  obtain ⟨s1, s2, s3⟩ := blen_spec (n := t) (by omega)
  obtain ⟨u, hu⟩ : ∃ u, blen t = u + 1 := ⟨blen t - 1, by omega⟩
  rw [hu] at s1 s2 hf
  rw [Nat.add_sub_cancel] at s1
  have e1 : 2 ^ u * 2 ^ f = 2147483648 := by rw [← Nat.pow_add, show u + f = 31 by omega]
  have e2 : 2 ^ (u + 1) * 2 ^ f = 4294967296 := by rw [← Nat.pow_add, show u + 1 + f = 32 by omega]
  have l1 : 2147483648 * 4294967296 ^ k ≤ b * 2 ^ f := by
    rw [← e1, Nat.mul_right_comm]
    exact Nat.mul_le_mul_right _ (Nat.le_trans (Nat.mul_le_mul_right _ s1) h3)
  have l2 : b * 2 ^ f < 4294967296 ^ (k + 1) := by
    rw [Nat.pow_succ]
    have h5 : b < 4294967296 ^ k * 2 ^ (u + 1) := Nat.lt_of_lt_of_le h4 (Nat.mul_le_mul_left _ s2)
    have h6 := Nat.mul_lt_mul_of_pos_right h5 (Nat.two_pow_pos f)
    rwa [Nat.mul_assoc, e2] at h6
  have hlen : (limbs (b * 2 ^ f)).length = k + 1 := by
    have a1 := length_limbs_le l2
    have a2 := lt_length_limbs (n := b * 2 ^ f) (k := k) (by have : 1 * 4294967296 ^ k ≤ 2147483648 * 4294967296 ^ k := Nat.mul_le_mul_right _ (by decide); omega)
    omega
  obtain ⟨e3, _, _⟩ := top_limb hlen
  refine ⟨hlen, ?_⟩
  rw [e3]
  exact (Nat.le_div_iff_mul_le hP).2 l1

theorem rem_back {a b f : Nat} : a * 2 ^ f % (b * 2 ^ f) / 2 ^ f = a % b := by
  rw [Nat.mul_mod_mul_right, Nat.mul_div_cancel _ (Nat.two_pow_pos f)]
theorem quo_same {a b f : Nat} : a * 2 ^ f / (b * 2 ^ f) = a / b := Nat.mul_div_mul_right _ _ (Nat.two_pow_pos f)

end Go.Proofs.YtohciicocaoagaaGreat.Limb
namespace Go.Proofs.YtohciicocaoagaaGreat
open Go.RowKit Limb
set_option linter.unusedVariables false

theorem lead_any (x : Nat) (w : World) (h1 : x < 4294967296) (f : Nat) (hf : f + blen x = 32) :
    Calls Tryz.prog 83 #[.int .u32 (x : Int)] w fun e w' => e = .returned (.int .i64 (f : Int)) ∧ w = w' := by
  have h2 : 32 - ((blen x : Nat) : Int) = (f : Int) := by omega
  have hb : blen x ≤ 32 := by omega
  have hL := len32_any (x : Int) w (by omega) (by omega)
  rw [Int.toNat_natCast] at hL
  obtain ⟨y, hy⟩ : ∃ y, y = blen x := ⟨_, rfl⟩
  rw [← hy] at h2 hb hL
  clear hf hy
  go_enter Tryz.func83, Tryz.ntmps83
  go_wp2_with fail
  refine hL.mono ?_
  rintro e w1 ⟨rfl, rfl⟩
  go_wp2
  go_ret
  exact ⟨rfl, rfl⟩

set_option maxHeartbeats 1000000 in
theorem quoRem_no {A A' : Option Addr} {n c n' c' : Nat} {xs ys : List Nat} {a b L L' : Nat} {w : World} (hx : NN w A n c xs a L) (hy : NN w A' n' c' ys b L') (h1 : L ≤ 100000) (h2 : L' ≤ 100000) (hb : b = 0) :
    Calls Tryz.prog 59 #[.slice A n c, .slice A' n' c'] w fun e w' => ∃ A1 c1 A2 c2, e = .returned (.tuple #[.slice A1 0 c1, .slice A2 0 c2, .bool false]) ∧ Below w.heap.size w w' := by
  subst hb
  go_enter Tryz.func59, Tryz.ntmps59
  go_wp2_with fail
  refine (trim_c hx (by omega)).mono ?_
  rintro e w1 ⟨A1, n1, c1, rfl, hx1, bn⟩
  have hy1 := hy.below bn
  have bw := bn
  clear hx hy bn
  go_wp2_with fail
  refine (trim_c hy1 (by omega)).mono ?_
  rintro e w2 ⟨A2, n2, c2, rfl, hy2, bn⟩
  have hn2 : n2 = 0 := by have := hy2.isN.len; rw [limbs_zero] at this; exact this.symm
  subst hn2
  have HW := Lib.hid (below_two bw bn)
  clear bn bw hy1 hy2 hx1
  go_wp2
  go_ret3
  exact ⟨none, 0, none, 0, rfl, HW.out⟩

set_option maxHeartbeats 2000000 in
theorem quoRem_yes {A A' : Option Addr} {n c n' c' : Nat} {xs ys : List Nat} {a b L L' : Nat} {w : World} (hx : NN w A n c xs a L) (hy : NN w A' n' c' ys b L') (h1 : L ≤ 100000) (h2 : L' ≤ 100000) (hb : b ≠ 0) :
    Calls Tryz.prog 59 #[.slice A n c, .slice A' n' c'] w fun e w' => ∃ A1 n1 c1 A2 n2 c2, e = .returned (.tuple #[.slice A1 n1 c1, .slice A2 n2 c2, .bool true]) ∧ NN w' A1 n1 c1 (limbs (a / b)) (a / b) L ∧ NN w' A2 n2 c2 (limbs (a % b)) (a % b) L' ∧ Below w.heap.size w w' := by
  have Hl := Lib.hid (Nat.lt_trans (Nat.mod_lt a (Nat.pos_of_ne_zero hb)) (lt_pow hy))
  have Hla := Lib.hid (Nat.lt_of_le_of_lt (Nat.div_le_self a b) (lt_pow hx))
  go_enter Tryz.func59, Tryz.ntmps59
  go_wp2_with fail
  refine (trim_c hx (by omega)).mono ?_
  rintro e w1 ⟨A1, n1, c1, rfl, hx1, bn⟩
  have hy1 := hy.below bn
  have bw := bn
  clear hx hy bn
  go_wp2_with fail
  refine (trim_c hy1 (by omega)).mono ?_
  rintro e w2 ⟨A2, n2, c2, rfl, hy2, bn⟩
  replace hx1 := hx1.below bn
  replace bw := below_two bw bn
  clear bn hy1
  have hyl := hy2.isN.len
  have hxl := hx1.isN.len
  have hn2 : 0 < n2 := by rw [limbs_pos hb] at hyl; simp at hyl; omega
  have hn2e : ((n2 : Int) == 0) = false := by simp; omega
  have hle2 := hy2.le
  have hle1 := hx1.le
  have Hyl := Lib.hid hyl
  have Hxl := Lib.hid hxl
  have Hb0 := Lib.hid hb
  clear hyl hxl hb
  by_cases hlt : a < b
  · have e1 : RowKit.Hid (a / b = 0) := Nat.div_eq_of_lt hlt
    have e2 : RowKit.Hid (a % b = a) := Nat.mod_eq_of_lt hlt
    have hc := cmpI_lt hlt
    have Hc := Lib.hid hc
    have HA := Lib.hid hx1
    have Hlt := Lib.hid hlt
    clear hlt hc
    go_wp2_with fail
    refine (cmp_c HA.out hy2 (by omega) (by omega) (-1) Hc.out).mono ?_
    rintro e w3 ⟨rfl, bn⟩
    have HR := Lib.hid (HA.out.below bn)
    have HW := Lib.hid (below_two bw bn)
    clear bn bw hy2 hx1 HA
    go_wp2
    go_ret3
    refine ⟨none, 0, 0, _, _, _, rfl, ?_, ?_, HW.out⟩
    · rw [e1.out, limbs_zero]; exact ⟨IsN.nil _ _, rfl, Nat.zero_le _, Nat.zero_le _⟩
    · rw [e2.out]; exact HR.out.relax (by have := Hl.out; rwa [e2.out] at this)
  · obtain ⟨v, hv, hv0⟩ : ∃ v, cmpI a b = v ∧ 0 ≤ v := by
      rcases Nat.lt_trichotomy a b with h | h | h
      · exact absurd h hlt
      · exact ⟨0, by rw [h]; exact cmpI_eq _, by omega⟩
      · exact ⟨1, cmpI_gt h, by omega⟩
    have Hv := Lib.hid hv
    have Hge := Lib.hid (Nat.le_of_not_lt hlt)
    clear hv hlt
    go_wp2_with fail
    refine (cmp_c hx1 hy2 (by omega) (by omega) v Hv.out).mono ?_
    rintro e w3 ⟨rfl, bn⟩
    replace hx1 := hx1.below bn
    replace hy2 := hy2.below bn
    replace bw := below_two bw bn
    clear bn Hv
    obtain ⟨b2, o2, rfl, hb2, hc2⟩ := hy2.isN.2.2 hn2
    by_cases hn1 : n2 = 1
    · subst hn1
      have el : limbs b = [b] ∧ b < 4294967296 := by
        have h := Hyl.out
        rw [limbs_pos Hb0.out] at h ⊢
        simp only [List.length_cons] at h
        have h0 : limbs (b / 4294967296) = [] := List.eq_nil_of_length_eq_zero (by omega)
        have h3 := limbs_eq_nil.1 h0
        have h4 : b < 4294967296 := by omega
        rw [h0, Nat.mod_eq_of_lt h4]
        exact ⟨rfl, h4⟩
      have k3 := hc2 0 (by omega)
      rw [el.1] at k3
      have e1 : lim [b] 0 = b := rfl
      rw [e1, Nat.add_zero] at k3
      have hb4 := el.2
      clear el e1 hc2 hn2e
      go_wp2_with fail
      refine (quoSmall_yes hx1 h1 b _ rfl hb4 Hb0.out).mono ?_
      rintro e w4 ⟨A4, n4, c4, rfl, hq, bn⟩
      have Hml := Lib.hid (Nat.mod_lt a (Nat.pos_of_ne_zero Hb0.out))
      obtain ⟨r, hr⟩ : ∃ r, r = a % b := ⟨_, rfl⟩
      have Hr := Lib.hid hr
      rw [← hr] at Hml ⊢
      have hr4 : r < 4294967296 := Nat.lt_trans Hml.out hb4
      replace bw := below_two bw bn
      clear bn hx1 hy2 hr k3
      go_wp2_with fail
      refine (of_c r _ rfl (by omega) w4).mono ?_
      rintro e w5 ⟨A5, n5, c5, rfl, ho, bn⟩
      have HQ := Lib.hid (hq.below bn)
      rw [Hr.out] at ho
      have HO := Lib.hid (ho.relax Hl.out)
      have HW := Lib.hid (below_two bw bn)
      clear ho hq bn bw
      go_wp2
      go_ret3
      exact ⟨_, _, _, _, _, _, rfl, HQ.out, HO.out, HW.out⟩
    · obtain ⟨k, rfl⟩ : ∃ k, n2 = k + 1 := ⟨n2 - 1, by omega⟩
      have hne1 : (((k + 1 : Nat) : Int) == 1) = false := by simp; omega
      have hk1 : 1 ≤ k := by omega
      have k3 := hc2 k (by omega)
      have ek : ((k + 1 : Nat) : Int) - 1 = (k : Int) := by omega
      obtain ⟨t, ht⟩ : ∃ t, t = lim (limbs b) k := ⟨_, rfl⟩
      have ht4 : t < 4294967296 := by rw [ht]; exact lim_lt (small_limbs b) k
      have hbl : blen t ≤ 32 := blen_le (k := 32) ht4
      obtain ⟨f, hf⟩ : ∃ f, f + blen t = 32 := ⟨32 - blen t, by omega⟩
      have hnorm := norm_ok (f := f) Hyl.out (by rw [← ht]; exact hf)
      have HF := Lib.hid hf
      have Hnorm := Lib.hid hnorm
      rw [← ht] at k3
      have hf32 : f ≤ 32 := by omega
      have hsa : shiftV a (f : Int) = a * 2 ^ f := shiftV_up (by omega) (by omega)
      have hsb : shiftV b (f : Int) = b * 2 ^ f := shiftV_up (by omega) (by omega)
      have h2f : 2 ^ f ≤ 4294967296 := (Nat.pow_le_pow_right (n := 2) (by decide) hf32 : 2 ^ f ≤ 2 ^ 32)
      have Hsa := Lib.hid hsa
      have Hsb := Lib.hid hsb
      have Hba : RowKit.Hid (a * 2 ^ f < 4294967296 ^ (L + 1)) := by
        show _ < _
        rw [Nat.pow_succ]
        exact Nat.lt_of_lt_of_le (Nat.mul_lt_mul_of_pos_right (lt_pow hx1) (Nat.two_pow_pos f)) (Nat.mul_le_mul_left _ h2f)
      have Hbb : RowKit.Hid (b * 2 ^ f < 4294967296 ^ (L' + 1)) := by
        show _ < _
        rw [Nat.pow_succ]
        exact Nat.lt_of_lt_of_le (Nat.mul_lt_mul_of_pos_right (lt_pow hy2) (Nat.two_pow_pos f)) (Nat.mul_le_mul_left _ h2f)
      have Hab : RowKit.Hid (b * 2 ^ f ≤ a * 2 ^ f) := Nat.mul_le_mul_right _ Hge.out
      clear ht hbl hf hnorm hsa hsb h2f hc2 hn1 hn2e
      go_wp2_with fail
      refine (lead_any t w3 ht4 f HF.out).mono ?_
      rintro e w4 ⟨rfl, rfl⟩
      go_wp2_with fail
      refine (mulShift_c hx1 (f : Int) (by omega) (by omega) (a * 2 ^ f) (L + 1) Hsa.out Hba.out (by omega)).mono ?_
      rintro e w4 ⟨A4, n4, c4, rfl, ha, bn⟩
      replace hy2 := hy2.below bn
      replace bw := below_two bw bn
      clear bn hx1
      go_wp2_with fail
      refine (mulShift_c hy2 (f : Int) (by omega) (by omega) (b * 2 ^ f) (L' + 1) Hsb.out Hbb.out (by omega)).mono ?_
      rintro e w5 ⟨A5, n5, c5, rfl, hbn, bn⟩
      replace ha := ha.below bn
      replace bw := below_two bw bn
      clear bn hy2
      have hn5 : n5 = k + 1 := by have := hbn.isN.len; rw [Hnorm.out.1] at this; exact this.symm
      subst hn5
      have hle4 := ha.le
      have hcap4 := ha.cap
      have h54 : k + 1 ≤ n4 := by
        have := length_limbs_mono Hab.out
        rwa [Hnorm.out.1, ha.isN.len] at this
      have hi4 := ha.isN
      have hi5 := hbn.isN
      have HD := Lib.hid (divide_any A4 n4 c4 (limbs (a * 2 ^ f)) A5 (k + 1) c5 (limbs (b * 2 ^ f)) w5 hi4 hi5 (by omega) hcap4 (by omega) h54 (by rw [Nat.add_sub_cancel]; exact Hnorm.out.2))
      clear ha hbn hi4 hi5
      go_wp2_with fail
      refine HD.out.mono ?_
      rintro e w6 ⟨A6, n6, c6, A7, c7, zs, rfl, hq, ⟨hr, hvr⟩, bn⟩
      rw [val_limbs, val_limbs] at hvr
      rw [val_limbs, val_limbs, quo_same] at hq
      have hq2 := NN.own hq Hla.out
      have hr2 : NN w6 A7 (k + 1) c7 zs (a * 2 ^ f % (b * 2 ^ f)) (L' + 1) := ⟨hr.isN, hvr, hr.caps.1, by omega⟩
      replace bw := below_two bw bn
      have Hsr : RowKit.Hid (shiftV (a * 2 ^ f % (b * 2 ^ f)) (-(f : Int)) = a % b) := by
        show _ = _
        rw [← rem_back (a := a) (b := b) (f := f)]
        by_cases h0 : f = 0
        · rw [h0]; exact (shiftV_up (n := -((0 : Nat) : Int)) (k := 0) (by omega) (by omega)).trans (by simp)
        · exact shiftV_down (n := -(f : Int)) (k := f) (by omega) (by omega) (by omega)
      clear bn hq hr hvr HD
      go_wp2_with fail
      refine (mulShift_c hr2 (-(f : Int)) (by omega) (by omega) (a % b) L' Hsr.out Hl.out (by omega)).mono ?_
      rintro e w7 ⟨A8, n8, c8, rfl, hr3, bn⟩
      have HQ := Lib.hid (hq2.below bn)
      have HR := Lib.hid hr3
      have HW := Lib.hid (below_two bw bn)
      clear hq2 hr3 hr2 bn bw
      go_wp2
      go_ret3
      exact ⟨_, _, _, _, _, _, rfl, HQ.out, HR.out, HW.out⟩

end Go.Proofs.YtohciicocaoagaaGreat

/- What package quo's nearer answers, as a contract over memory: two numbers further on in the divisions of two numbers by each other: the same greatest divisor, the second one less than it was. Conditions: both lists are the shortest ones, of at most 10^5 limbs; the first number has more than two limbs, the second one is not 0 and not above it. -/
namespace Go.Proofs.YtohciicocaoagaaGreat.Limb

theorem gcd_cast {a b x y : Nat} (h : Int.gcd (x : Int) (y : Int) = Int.gcd (a : Int) (b : Int)) : gcdN x y = gcdN a b := by
  unfold gcdN; simpa [Int.gcd_natCast_natCast] using h

/-- The heads of two numbers, as far as the first one's highest 62 bits. -/
theorem heads_of {a b k : Nat} (hk : k + 62 = blen a) (hba : b ≤ a) : Heads ((a / 2 ^ k : Nat) : Int) ((b / 2 ^ k : Nat) : Int) (a : Int) (b : Int) ((2 ^ k : Nat) : Int) := by
  have hS : 0 < 2 ^ k := Nat.two_pow_pos k
  have h1 := Nat.div_mul_le_self a (2 ^ k)
  have h2 := Nat.lt_mul_div_succ a hS
  have h3 := Nat.div_mul_le_self b (2 ^ k)
  have h4 := Nat.lt_mul_div_succ b hS
  have h5 : a / 2 ^ k < 4611686018427387904 := by
    rw [Nat.div_lt_iff_lt_mul hS]
    have := blen_lt a
    rw [← hk, Nat.add_comm, Nat.pow_add] at this
    exact this
  have h6 : b / 2 ^ k ≤ a / 2 ^ k := Nat.div_le_div_right hba
  rw [Nat.mul_comm] at h2 h4
  generalize a / 2 ^ k = x at *
  generalize b / 2 ^ k = y at *
  generalize 2 ^ k = S at *
  refine ⟨by omega, ?_, ?_, ?_, ?_, by omega, by omega, by omega, by omega⟩
  · have : ((x * S : Nat) : Int) ≤ (a : Int) := by omega
    simpa using this
  · have : (a : Int) < (((x + 1) * S : Nat) : Int) := by omega
    simpa using this
  · have : ((y * S : Nat) : Int) ≤ (b : Int) := by omega
    simpa using this
  · have : (b : Int) < (((y + 1) * S : Nat) : Int) := by omega
    simpa using this

theorem head_small {a b k : Nat} (hk : k + 62 = blen a) (hba : b ≤ a) : b / 2 ^ k % 18446744073709551616 = b / 2 ^ k := by
  have h5 : b / 2 ^ k < 4611686018427387904 := by
    rw [Nat.div_lt_iff_lt_mul (Nat.two_pow_pos k)]
    have := blen_lt a
    rw [← hk, Nat.add_comm, Nat.pow_add] at this
    exact Nat.lt_of_le_of_lt hba this
  exact Nat.mod_eq_of_lt (by omega)

theorem blen_long {a : Nat} (h : 2 < (limbs a).length) : 65 ≤ blen a := by
  have h0 : a ≠ 0 := by intro e; rw [e, limbs_zero] at h; simp at h
  have h1 := length_limbs_pred h0
  have h2 : 4294967296 ^ 2 ≤ 4294967296 ^ ((limbs a).length - 1) := Nat.pow_le_pow_right (by decide) (by omega)
  have h3 := blen_lt a
  have h4 : 2 ^ 64 < 2 ^ blen a := Nat.lt_of_le_of_lt (Nat.le_trans (by decide) (Nat.le_trans h2 h1)) h3
  have := (Nat.pow_lt_pow_iff_right (by decide)).1 h4
  omega

end Go.Proofs.YtohciicocaoagaaGreat.Limb
namespace Go.Proofs.YtohciicocaoagaaGreat
open Go.RowKit Limb
set_option linter.unusedVariables false

theorem of_c2 (P Q : Int) {A A' : Option Addr} {n c n' c' a b L L' : Nat} {w : World} (hx : NN w A n c (limbs a) a L) (hy : NN w A' n' c' (limbs b) b L') (h1 : L ≤ 100000) (hba : b ≤ a) (hPQ : MixOk P Q) (v : Nat) (hv : P * (a : Int) + Q * (b : Int) = (v : Int)) (hva : v ≤ a) :
    Calls Tryz.prog 96 #[.agg #[.int .i64 P, .int .i64 Q], .slice A n c, .slice A' n' c'] w fun e w' => ∃ A2 n2 c2, e = .returned (.slice A2 n2 c2) ∧ NN w' A2 n2 c2 (limbs v) v L ∧ Below w.heap.size w w' := by
  have hn : n' ≤ n := by rw [← hx.isN.len, ← hy.isN.len]; exact length_limbs_mono hba
  have hv2 : v < 4294967296 ^ n := by
    have h := val_lt hx.isN.small
    rw [hx.val, hx.isN.len] at h
    omega
  refine (of_mix P Q A n c (limbs a) A' n' c' (limbs b) w hx.isN hy.isN (by have := hx.le; omega) hn hPQ v (by rw [val_limbs, val_limbs]; exact hv) hv2).mono ?_
  rintro e w' ⟨A2, n2, c2, rfl, how, hb⟩
  exact ⟨A2, n2, c2, rfl, NN.own how (Nat.lt_of_le_of_lt hva (lt_pow hx)), hb⟩

set_option maxHeartbeats 1000000 in
theorem nearer_c {A A' : Option Addr} {n c n' c' a b L : Nat} {w : World} (hx : NN w A n c (limbs a) a L) (hy : NN w A' n' c' (limbs b) b L) (h1 : L ≤ 100000) (h3 : 2 < n) (hb : b ≠ 0) (hba : b ≤ a) :
    Calls Tryz.prog 74 #[.slice A n c, .slice A' n' c'] w fun e w' => ∃ x y A1 n1 c1 A2 n2 c2, e = .returned (.tuple #[.slice A1 n1 c1, .slice A2 n2 c2]) ∧ NN w' A1 n1 c1 (limbs x) x L ∧ NN w' A2 n2 c2 (limbs y) y L ∧
      RowKit.Hid (y < b ∧ y ≤ x ∧ gcdN x y = gcdN a b) ∧ Below w.heap.size w w' := by
  have hbl : 65 ≤ blen a := blen_long (by rw [hx.isN.len]; exact h3)
  have hb32 := blen_NN hx
  obtain ⟨k, hk⟩ : ∃ k, k + 62 = blen a := ⟨blen a - 62, by omega⟩
  have hH := heads_of hk hba
  have hs1 := head_small hk (Nat.le_refl a)
  have hs2 := head_small hk hba
  obtain ⟨x0, hx0⟩ : ∃ x, x = a / 2 ^ k := ⟨_, rfl⟩
  obtain ⟨y0, hy0⟩ : ∃ x, x = b / 2 ^ k := ⟨_, rfl⟩
  rw [← hx0] at hH
  rw [← hy0] at hH
  replace hs1 := hs1.trans hx0.symm
  replace hs2 := hs2.trans hy0.symm
  have x62 : x0 < 4611686018427387904 := by have := hH.x62; omega
  have y62 : y0 < 4611686018427387904 := by have := hH.yx; omega
  obtain ⟨l, hl⟩ : ∃ l, l = blen a := ⟨_, rfl⟩
  have hlk : (l : Int) - 62 = (k : Int) := by omega
  have hkk : k ≤ 3200000 := by omega
  have Hl := Lib.hid hl.symm
  have HH := Lib.hid hH
  have Hs1 := Lib.hid hs1
  have Hs2 := Lib.hid hs2
  have Hb0 := Lib.hid hb
  have Hba := Lib.hid hba
  have hle1 := hx.le
  have hle2 := hy.le
  clear hk hH hs1 hs2 hx0 hy0 hl hbl hb hba hb32
  go_enter Tryz.func74, Tryz.ntmps74
  go_wp2_with fail
  refine (bits_c hx (by omega) (l : Int) (by rw [Hl.out])).mono ?_
  rintro e w1 ⟨rfl, rfl⟩
  go_wp2_with fail
  refine (head_any A n c (limbs a) w hx.isN (by omega) k _ (by omega) (by omega) x0 (by rw [val_limbs]; exact Hs1.out)).mono ?_
  rintro e w1 ⟨rfl, nd, rfl⟩
  have bn := below_drewN (Below.refl w.heap.size w) nd
  have hx1 := hx.below bn
  have hy1 := hy.below bn
  have bw := bn
  clear bn hx hy
  generalize w.drewN nd = w1 at *
  go_wp2_with fail
  refine (head_any A' n' c' (limbs b) w1 hy1.isN (by omega) k _ (by omega) (by omega) y0 (by rw [val_limbs]; exact Hs2.out)).mono ?_
  rintro e w2 ⟨rfl, nd, rfl⟩
  have bn := below_drewN (Below.refl w1.heap.size w1) nd
  have hx2 := hx1.below bn
  have hy2 := hy1.below bn
  replace bw := below_two bw bn
  clear bn hx1 hy1
  generalize w1.drewN nd = w2 at *
  go_wp2_with fail
  refine (sure_any (x0 : Int) (y0 : Int) (a : Int) (b : Int) _ HH.out w2).mono ?_
  rintro e w3 ⟨fa, fb, sa, sb, rfl, hE, bn⟩
  have HE := Lib.hid hE
  have hx3 := hx2.below bn
  have hy3 := hy2.below bn
  replace bw := below_two bw bn
  clear hE bn hx2 hy2
  have P7 : RowKit.Hid (Pair ((w3.alloc (.cells #[Value.int .i64 fa, Value.int .i64 fb] 87)).alloc (.cells #[Value.int .i64 sa, Value.int .i64 sb] 87)) w3.heap.size fa fb) := (pair_new w3 fa fb).below (below_new _ _)
  have P8 : RowKit.Hid (Pair ((w3.alloc (.cells #[Value.int .i64 fa, Value.int .i64 fb] 87)).alloc (.cells #[Value.int .i64 sa, Value.int .i64 sb] 87)) (w3.heap.size + 1) sa sb) := by
    have h := pair_new (w3.alloc (.cells #[Value.int .i64 fa, Value.int .i64 fb] 87)) sa sb
    have e : (w3.alloc (.cells #[Value.int .i64 fa, Value.int .i64 fb] 87)).heap.size = w3.heap.size + 1 := by simp
    rw [e] at h
    exact h
  have bn := below_two (below_new w3 (.cells #[Value.int .i64 fa, Value.int .i64 fb] 87)) (below_new _ (.cells #[Value.int .i64 sa, Value.int .i64 sb] 87))
  have hx4 := hx3.below bn
  have hy4 := hy3.below bn
  replace bw := below_two bw bn
  clear bn hx3 hy3
  by_cases hfb : fb = 0
  · subst hfb
    have c71 := P7.out.c1
    clear P7 P8
    go_wp2_with fail
    refine (quoRem_yes hx4 hy4 h1 h1 Hb0.out).mono ?_
    rintro e w5 ⟨A5, n5, c5, A6, n6, c6, rfl, hq, hr, bn⟩
    have HX := Lib.hid (hy4.below bn)
    have HY := Lib.hid hr
    have HW := Lib.hid (below_two bw bn)
    have HP : RowKit.Hid (a % b < b ∧ a % b ≤ b ∧ gcdN b (a % b) = gcdN a b) := ⟨Nat.mod_lt _ (Nat.pos_of_ne_zero Hb0.out), Nat.le_of_lt (Nat.mod_lt _ (Nat.pos_of_ne_zero Hb0.out)), gcdN_step rfl⟩
    clear hq hr bn bw hx4 hy4 c71
    go_wp2
    go_ret2
    exact ⟨b, a % b, _, _, _, _, _, _, rfl, HX.out, HY.out, HP, HW.out⟩
  · have hf1 : (fb != 0) = true := by simp [hfb]
    obtain ⟨v1, v2, v3, v4, v5, v6⟩ := HE.out hfb
    obtain ⟨x, hx⟩ := Int.eq_ofNat_of_zero_le (show 0 ≤ fa * (a : Int) + fb * (b : Int) by omega)
    obtain ⟨y, hy⟩ := Int.eq_ofNat_of_zero_le v1
    rw [hx, hy] at v4
    have HP : RowKit.Hid (y < b ∧ y ≤ x ∧ gcdN x y = gcdN a b) := ⟨by omega, by omega, gcd_cast v4⟩
    have hxa : x ≤ a := by have := Hba.out; omega
    have hya : y ≤ a := by have := Hba.out; omega
    have c70 := P7.out.c0
    have c71 := P7.out.c1
    have c80 := P8.out.c0
    have c81 := P8.out.c1
    have l7 := P7.out.lt
    have l8 := P8.out.lt
    have Hx := Lib.hid hx
    have Hy := Lib.hid hy
    have HX4 := Lib.hid hx4
    have HY4 := Lib.hid hy4
    have HW4 := Lib.hid bw
    clear hx hy v1 v2 v3 v4 P7 P8 HE hx4 hy4 bw
    go_wp2
    generalize (w3.alloc (.cells #[Value.int .i64 fa, Value.int .i64 fb] 87)).alloc (.cells #[Value.int .i64 sa, Value.int .i64 sb] 87) = w4 at *
    obtain ⟨g7, hg7⟩ : ∃ g, g = w3.heap.size := ⟨_, rfl⟩
    rw [← hg7] at c70 c71 c80 c81 l7 l8 ⊢
    clear hg7
    have Hc : RowKit.Hid (∀ wx, Below w4.heap.size w4 wx → wx.cell? ⟨g7, 0, none⟩ = some (.int .i64 fa) ∧ wx.cell? ⟨g7, 1, none⟩ = some (.int .i64 fb) ∧ wx.cell? ⟨g7 + 1, 0, none⟩ = some (.int .i64 sa) ∧ wx.cell? ⟨g7 + 1, 1, none⟩ = some (.int .i64 sb)) := fun wx hb =>
      ⟨(hb.cell (p := ⟨g7, 0, none⟩) l7).trans c70, (hb.cell (p := ⟨g7, 1, none⟩) l7).trans c71, (hb.cell (p := ⟨g7 + 1, 0, none⟩) l8).trans c80, (hb.cell (p := ⟨g7 + 1, 1, none⟩) l8).trans c81⟩
    have KA : RowKit.Hid (∀ wx, Below w4.heap.size w4 wx → (wx.cell? ⟨g7, 0, none⟩ = some (.int .i64 fa) ∧ wx.cell? ⟨g7, 1, none⟩ = some (.int .i64 fb) ∧ wx.cell? ⟨g7 + 1, 0, none⟩ = some (.int .i64 sa) ∧ wx.cell? ⟨g7 + 1, 1, none⟩ = some (.int .i64 sb) ∧ Below w4.heap.size w4 wx)) := fun wx hb =>
      ⟨(Hc.out wx hb).1, (Hc.out wx hb).2.1, (Hc.out wx hb).2.2.1, (Hc.out wx hb).2.2.2, hb⟩
    have KS : RowKit.Hid (∀ wx w2, (wx.cell? ⟨g7, 0, none⟩ = some (.int .i64 fa) ∧ wx.cell? ⟨g7, 1, none⟩ = some (.int .i64 fb) ∧ wx.cell? ⟨g7 + 1, 0, none⟩ = some (.int .i64 sa) ∧ wx.cell? ⟨g7 + 1, 1, none⟩ = some (.int .i64 sb) ∧ Below w4.heap.size w4 wx) → Below wx.heap.size wx w2 →
        (w2.cell? ⟨g7, 0, none⟩ = some (.int .i64 fa) ∧ w2.cell? ⟨g7, 1, none⟩ = some (.int .i64 fb) ∧ w2.cell? ⟨g7 + 1, 0, none⟩ = some (.int .i64 sa) ∧ w2.cell? ⟨g7 + 1, 1, none⟩ = some (.int .i64 sb) ∧ Below w4.heap.size w4 w2)) := fun wx w2 hS hb => KA.out w2 (below_two hS.2.2.2.2 hb)
    have K1 : RowKit.Hid (∀ wx, (wx.cell? ⟨g7, 0, none⟩ = some (.int .i64 fa) ∧ wx.cell? ⟨g7, 1, none⟩ = some (.int .i64 fb) ∧ wx.cell? ⟨g7 + 1, 0, none⟩ = some (.int .i64 sa) ∧ wx.cell? ⟨g7 + 1, 1, none⟩ = some (.int .i64 sb) ∧ Below w4.heap.size w4 wx) →
        Calls Tryz.prog 96 #[.agg #[.int .i64 fa, .int .i64 fb], .slice A n c, .slice A' n' c'] wx fun e w' => ∃ A2 n2 c2, e = .returned (.slice A2 n2 c2) ∧ NN w' A2 n2 c2 (limbs x) x L ∧ Below wx.heap.size wx w') := fun wx hS =>
      of_c2 fa fb (HX4.out.below hS.2.2.2.2) (HY4.out.below hS.2.2.2.2) h1 Hba.out v5 x Hx.out hxa
    have K2 : RowKit.Hid (∀ wx, (wx.cell? ⟨g7, 0, none⟩ = some (.int .i64 fa) ∧ wx.cell? ⟨g7, 1, none⟩ = some (.int .i64 fb) ∧ wx.cell? ⟨g7 + 1, 0, none⟩ = some (.int .i64 sa) ∧ wx.cell? ⟨g7 + 1, 1, none⟩ = some (.int .i64 sb) ∧ Below w4.heap.size w4 wx) →
        Calls Tryz.prog 96 #[.agg #[.int .i64 sa, .int .i64 sb], .slice A n c, .slice A' n' c'] wx fun e w' => ∃ A2 n2 c2, e = .returned (.slice A2 n2 c2) ∧ NN w' A2 n2 c2 (limbs y) y L ∧ Below wx.heap.size wx w') := fun wx hS =>
      of_c2 sa sb (HX4.out.below hS.2.2.2.2) (HY4.out.below hS.2.2.2.2) h1 Hba.out v6 y Hy.out hya
    have KF : RowKit.Hid (∀ wx, (wx.cell? ⟨g7, 0, none⟩ = some (.int .i64 fa) ∧ wx.cell? ⟨g7, 1, none⟩ = some (.int .i64 fb) ∧ wx.cell? ⟨g7 + 1, 0, none⟩ = some (.int .i64 sa) ∧ wx.cell? ⟨g7 + 1, 1, none⟩ = some (.int .i64 sb) ∧ Below w4.heap.size w4 wx) → Below w.heap.size w wx) := fun wx hS => below_two HW4.out hS.2.2.2.2
    clear c70 c71 c80 c81 v5 v6 l7 l8 HX4 HY4 HW4 Hc
    go_region_held3 (fun wx => wx.cell? ⟨g7, 0, none⟩ = some (.int .i64 fa) ∧ wx.cell? ⟨g7, 1, none⟩ = some (.int .i64 fb) ∧ wx.cell? ⟨g7 + 1, 0, none⟩ = some (.int .i64 sa) ∧ wx.cell? ⟨g7 + 1, 1, none⟩ = some (.int .i64 sb) ∧ Below w4.heap.size w4 wx) (first | assumption | exact KA.out _ ((Below.refl _ _).drew)) (first
      | (go_at_call 96; (with_reducible refine (K1.out _ (by assumption)).mono ?_); rintro e w2 ⟨A_x, n_x, c_x, rfl, h_x, bn_x⟩; have hS2 := KS.out _ _ (by assumption) bn_x)
      | (go_at_call 96; (with_reducible refine (K2.out _ (by assumption)).mono ?_); rintro e w2 ⟨A_y, n_y, c_y, rfl, h_y, bn_y⟩; have hS2 := KS.out _ _ (by assumption) bn_y))
    all_goals
      have HX := Lib.hid (h_x.below bn_y)
      have HY := Lib.hid h_y
      have HW := Lib.hid (KF.out _ hS2)
      clear h_x h_y bn_x bn_y
      go_wp2
      go_ret2
      exact ⟨x, y, _, _, _, _, _, _, rfl, HX.out, HY.out, HP, HW.out⟩

end Go.Proofs.YtohciicocaoagaaGreat

/- What package quo's Gcd answers, as a contract over memory: the greatest divisor in common, in its shortest limbs. Conditions: both lists read as limbs, of at most 40000 of them. -/
namespace Go.Proofs.YtohciicocaoagaaGreat
open Go.RowKit Limb
set_option linter.unusedVariables false

theorem gcdN_comm (a b : Nat) : gcdN a b = gcdN b a := Nat.gcd_comm a b

set_option maxHeartbeats 1000000 in
theorem quoGcd_c {A A' : Option Addr} {n c n' c' : Nat} {xs ys : List Nat} {a b L L' : Nat} {w : World} (hx : NN w A n c xs a L) (hy : NN w A' n' c' ys b L') (h1 : L ≤ 40000) (h2 : L' ≤ 40000) (K : Nat) (hK : gcdN a b < 4294967296 ^ K) :
    Calls Tryz.prog 46 #[.slice A n c, .slice A' n' c'] w fun e w' => ∃ A2 n2 c2, e = .returned (.slice A2 n2 c2) ∧ NN w' A2 n2 c2 (limbs (gcdN a b)) (gcdN a b) K ∧ Below w.heap.size w w' := by
  have r1 := Nat.lt_of_lt_of_le (lt_pow hx) (Nat.pow_le_pow_right (show 0 < 4294967296 by decide) (Nat.le_add_right L L'))
  have r2 := Nat.lt_of_lt_of_le (lt_pow hy) (Nat.pow_le_pow_right (show 0 < 4294967296 by decide) (Nat.le_add_left L' L))
  obtain ⟨g, hg⟩ : ∃ g, gcdN a b = g := ⟨_, rfl⟩
  obtain ⟨M, hM⟩ : ∃ M, M = L + L' := ⟨_, rfl⟩
  have hM2 : M ≤ 80000 := by omega
  rw [← hM] at r1 r2
  rw [hg] at hK ⊢
  have R1 := Lib.hid r1
  have R2 := Lib.hid r2
  have HK := Lib.hid hK
  have Hg := Lib.hid hg
  clear r1 r2 hM hK hg
  go_enter Tryz.func46, Tryz.ntmps46
  go_wp2_with fail
  refine (trim_c hx (by omega)).mono ?_
  rintro e w1 ⟨A1, n1, c1, rfl, hx1, bn⟩
  have hy1 := hy.below bn
  have bw := bn
  clear hx hy bn
  go_wp2_with fail
  refine (trim_c hy1 (by omega)).mono ?_
  rintro e w2 ⟨A2, n2, c2, rfl, hy2, bn⟩
  have hx2 := (hx1.below bn).relax R1.out
  replace hy2 := hy2.relax R2.out
  replace bw := below_two bw bn
  clear bn hx1 hy1 R1 R2
  by_cases hlt : a < b
  case' pos =>
    have Hv := Lib.hid (cmpI_lt hlt)
    have Hr : RowKit.Hid (a ≤ b ∧ gcdN b a = g) := ⟨Nat.le_of_lt hlt, by rw [gcdN_comm]; exact Hg.out⟩
    clear hlt Hg
    go_wp2_with fail
    refine (cmp_c hx2 hy2 (by omega) (by omega) (-1) Hv.out).mono ?_
    rintro e w3 ⟨rfl, bn⟩
    have HX := Lib.hid (hy2.below bn)
    have HY := Lib.hid (hx2.below bn)
  case' neg =>
    obtain ⟨v, hv, hv0⟩ : ∃ v, cmpI a b = v ∧ 0 ≤ v := by
      rcases Nat.lt_trichotomy a b with h | h | h
      · exact absurd h hlt
      · exact ⟨0, by rw [h]; exact cmpI_eq _, by omega⟩
      · exact ⟨1, cmpI_gt h, by omega⟩
    have Hv := Lib.hid hv
    have Hr : RowKit.Hid (b ≤ a ∧ gcdN a b = g) := ⟨Nat.le_of_not_lt hlt, Hg.out⟩
    clear hlt hv Hg
    go_wp2_with fail
    refine (cmp_c hx2 hy2 (by omega) (by omega) v Hv.out).mono ?_
    rintro e w3 ⟨rfl, bn⟩
    have HX := Lib.hid (hx2.below bn)
    have HY := Lib.hid (hy2.below bn)
  all_goals
    have HW := Lib.hid (below_two bw bn)
    clear hx2 hy2 bn bw Hv
    go_wp2
    go_loopw [0, 1] (fun xv yv wr => ∃ (x y : Nat) (A1 : Option Addr) (n1 c1 : Nat) (A2 : Option Addr) (n2 c2 : Nat), xv = .slice A1 n1 c1 ∧ yv = .slice A2 n2 c2 ∧ RowKit.Hid (y ≤ x ∧ gcdN x y = g) ∧ RowKit.Hid (NN wr A1 n1 c1 (limbs x) x M) ∧ RowKit.Hid (NN wr A2 n2 c2 (limbs y) y M) ∧ RowKit.Hid (Below w.heap.size w wr)) (fun _ yv wr => readN wr yv)
    case atStart => exact ⟨_, _, _, _, _, _, _, _, rfl, rfl, Hr, HX, HY, HW⟩
    case round =>
      clear Hr HX HY HW
      obtain ⟨x, y, A1, n1, c1, A2, n2, c2, rfl, rfl, Hr, HX, HY, HW⟩ := hrel
      by_cases h0 : y = 0
      · subst h0
        have hn0 : n2 = 0 := by have := HY.out.isN.len; rw [limbs_zero] at this; exact this.symm
        subst hn0
        have HG := Lib.hid (gcdN_end Hr.out.2)
        go_wp2
        go_ret
        exact ⟨A1, n1, c1, rfl, by rw [← HG.out]; exact HX.out.relax (by rw [HG.out]; exact HK.out), HW.out⟩
      · have hpos : 0 < n2 := by
          have h := HY.out.isN.len
          rw [limbs_pos h0] at h
          simp at h
          omega
        have H0 := Lib.hid h0
        have hx := HX.out
        have hy := HY.out
        clear h0
        by_cases hn : 2 < n1
        · go_wp2_with fail
          refine (nearer_c hx hy (by omega) hn H0.out Hr.out.1).mono ?_
          rintro e w4 ⟨x', y', A3, n3, c3, A4, n4, c4, rfl, h3, h4, Hp, bn⟩
          have HX2 := Lib.hid h3
          have HY2 := Lib.hid h4
          have HW2 := Lib.hid (below_two HW.out bn)
          have HR2 : RowKit.Hid (y' ≤ x' ∧ gcdN x' y' = g) := ⟨Hp.out.2.1, Hp.out.2.2.trans Hr.out.2⟩
          have HM : RowKit.Hid (readN w4 (.slice A4 n4 c4) < readN wr (.slice A2 n2 c2)) := by
            show _ < _
            rw [readN_eq h4.isN, readN_eq hy.isN, val_limbs, val_limbs]
            exact Hp.out.1
          clear hx hy h3 h4 bn HX HY HW Hr Hp
          go_wp2
          go_roundw
          case rel => exact ⟨x', y', A3, n3, c3, A4, n4, c4, rfl, rfl, HR2, HX2, HY2, HW2⟩
          case measure => exact HM.out
        · have hx64 : x < 18446744073709551616 := by
            have h := val_lt hx.isN.small
            rw [hx.val, hx.isN.len] at h
            have h2 : 4294967296 ^ n1 ≤ 4294967296 ^ 2 := Nat.pow_le_pow_right (by decide) (by omega)
            exact Nat.lt_of_lt_of_le h h2
          have hy64 : y < 18446744073709551616 := Nat.lt_of_le_of_lt Hr.out.1 hx64
          have Hx1 : RowKit.Hid (val (limbs x) / 2 ^ 0 % 18446744073709551616 = x) := by show _ = _; rw [val_limbs, Nat.pow_zero, Nat.div_one, Nat.mod_eq_of_lt hx64]
          have Hy1 : RowKit.Hid (val (limbs y) / 2 ^ 0 % 18446744073709551616 = y) := by show _ = _; rw [val_limbs, Nat.pow_zero, Nat.div_one, Nat.mod_eq_of_lt hy64]
          have hg64 : g < 18446744073709551616 := by
            rw [← Hr.out.2]
            exact Nat.lt_of_le_of_lt (Nat.gcd_le_right _ (Nat.pos_of_ne_zero H0.out)) hy64
          have hl1 := hx.le
          have hl2 := hy.le
          have hn2 : n1 ≤ 2 := by omega
          clear HX HY hn
          go_wp2_with fail
          refine (head_any A1 n1 c1 (limbs x) wr hx.isN (by omega) 0 _ rfl (by omega) x Hx1.out).mono ?_
          rintro e w4 ⟨rfl, nd, rfl⟩
          have bn := below_drewN (Below.refl wr.heap.size wr) nd
          have hy3 := hy.below bn
          have bw := below_two HW.out bn
          clear bn hx hy
          generalize wr.drewN nd = w4 at *
          go_wp2_with fail
          refine (head_any A2 n2 c2 (limbs y) w4 hy3.isN (by omega) 0 _ rfl (by omega) y Hy1.out).mono ?_
          rintro e w5 ⟨rfl, nd, rfl⟩
          have bn := below_drewN (Below.refl w4.heap.size w4) nd
          replace bw := below_two bw bn
          clear bn hy3
          generalize w4.drewN nd = w5 at *
          go_wp2_with fail
          refine (gcdSmall_any x y _ _ rfl rfl w5 hx64 hy64 g Hr.out.2).mono ?_
          rintro e w6 ⟨rfl, bn⟩
          replace bw := below_two bw bn
          clear bn
          go_wp2_with fail
          refine (of_c g _ rfl hg64 w6).mono ?_
          rintro e w7 ⟨A7, n7, c7, rfl, ho, bn⟩
          have HO := Lib.hid (ho.relax HK.out)
          replace bw := below_two bw bn
          clear bn ho
          go_wp2
          go_ret
          exact ⟨_, _, _, rfl, HO.out, bw⟩

end Go.Proofs.YtohciicocaoagaaGreat
