/- What package quo's sure answers, as a contract over memory: two multiples of both heads, as far as these make the quotients certain. Conditions: the heads are those of two numbers, below 2^62, the second one not above the first. -/
import Derived.Test.YtbenkbgdahcaaaaQuoS
import Derived.Laws.Rows
import Derived.RegionTactic
import Derived.BigRegion
import Derived.IntWalk
namespace Go.Proofs.Ytbenkbgdahcaaaa
open Go.RowKit Limb
set_option linter.unusedVariables false

/-- A pair of multipliers in memory. -/
def Pair (w : World) (g : Nat) (u v : Int) : Prop := w.heap[g]? = some (.cells #[Value.int .i64 u, Value.int .i64 v] 59 (0, 0))
theorem Pair.lt {w : World} {g : Nat} {u v : Int} (h : Pair w g u v) : g < w.heap.size := by
  rcases Nat.lt_or_ge g w.heap.size with hlt | hge
  · exact hlt
  · unfold Pair at h; rw [Array.getElem?_eq_none hge] at h; cases h
theorem Pair.below {w w' : World} {g : Nat} {u v : Int} (h : Pair w g u v) (hb : Below w.heap.size w w') : Pair w' g u v := (hb.block g h.lt).trans h
theorem Pair.c0 {w : World} {g : Nat} {u v : Int} (h : Pair w g u v) : w.cell? ⟨g, 0, none⟩ = some (.int .i64 u) := by unfold Pair at h; simp [World.cell?, h]
theorem Pair.c1 {w : World} {g : Nat} {u v : Int} (h : Pair w g u v) : w.cell? ⟨g, 1, none⟩ = some (.int .i64 v) := by unfold Pair at h; simp [World.cell?, h]
theorem Pair.f0 {w : World} {g : Nat} {u v : Int} (h : Pair w g u v) (k : Nat) : w.frozen? ⟨g, k, none⟩ = false := by unfold Pair at h; simp [World.frozen?, h]
theorem Pair.put {w : World} {g : Nat} {u v : Int} (h : Pair w g u v) (u' v' : Int) : Pair ((w.setCell ⟨g, 0, none⟩ (.int .i64 u')).setCell ⟨g, 1, none⟩ (.int .i64 v')) g u' v' := by
  unfold Pair at h ⊢
  simp [World.setCell, Array.getElem?_modify, h]
theorem Pair.other {w : World} {g k : Nat} {u v : Int} (h : Pair w g u v) (hk : k ≠ g) (x y : Value) : Pair ((w.setCell ⟨k, 0, none⟩ x).setCell ⟨k, 1, none⟩ y) g u v := by
  unfold Pair at h ⊢
  simp [World.setCell, Array.getElem?_modify, h, hk]
theorem pair_new (w : World) (u v : Int) : Pair (w.alloc (.cells #[Value.int .i64 u, Value.int .i64 v] 59)) w.heap.size u v := heap_alloc_new _ _

theorem mix_size : (Try.prog.info? 59).map (·.size) = some 2 := by kernel_rfl

/-- Two results, each a row of cells. -/
theorem results_two {P : Program} {fn : Func} {p q : Tmp} {ty : TypeId} (h : fn.results = #[.cell p ty, .cell q ty]) (tmps : Array Value) (w : World) (g k : Nat) (t : TypeId) (cs ds : Array Value) (fr : Nat × Nat) (d : TypeDesc)
    (hp : tmps.getD p undef = .pointer (some ⟨g, 0, none⟩)) (hq : tmps.getD q undef = .pointer (some ⟨k, 0, none⟩)) (hg : w.heap[g]? = some (.cells cs t fr)) (hk : w.heap[k]? = some (.cells ds t fr))
    (hu : P.underlying ty = some d) (hd : (match d with | .struct _ | .array _ _ => true | _ => false) = true) (hi : (P.info? ty).map (·.size) = some cs.size) (hj : (P.info? ty).map (·.size) = some ds.size) :
    (results fn tmps).run P w = .ok (.tuple #[.agg cs, .agg ds]) w := by
  have hp' : tmps[p]?.getD undef = .pointer (some ⟨g, 0, none⟩) := by simpa using hp
  have hq' : tmps[q]?.getD undef = .pointer (some ⟨k, 0, none⟩) := by simpa using hq
  simp [results, h, hp', hq', asAddr, run_loadVar_row w g t ty cs fr d hg hu hd hi, run_loadVar_row w k t ty ds fr d hk hu hd hj]

theorem below_put2 {w wr : World} {g : Nat} (h : Below w.heap.size w wr) (hg : w.heap.size ≤ g) (u v : Value) : Below w.heap.size w ((wr.setCell ⟨g, 0, none⟩ u).setCell ⟨g, 1, none⟩ v) :=
  (h.setCell (by exact hg) _).setCell (by exact hg) _

set_option maxHeartbeats 1000000 in
theorem sure_any (x0 y0 a b S : Int) (hh : Heads x0 y0 a b S) (w : World) :
    Calls Try.prog 47 #[.int .i64 x0, .int .i64 y0] w fun e w' => ∃ fa fb sa sb : Int, e = .returned (.tuple #[.agg #[.int .i64 fa, .int .i64 fb], .agg #[.int .i64 sa, .int .i64 sb]]) ∧ SEnd a b fa fb sa sb ∧ Below w.heap.size w w' := by
  have h0 := SInv.start hh
  have H0 := Lib.hid h0
  have Hh := Lib.hid hh
  have P4 : RowKit.Hid (Pair ((w.alloc (.cells #[Value.int .i64 1, Value.int .i64 0] 59)).alloc (.cells #[Value.int .i64 0, Value.int .i64 1] 59)) w.heap.size 1 0) := (pair_new w 1 0).below (below_new _ _)
  have P5 : RowKit.Hid (Pair ((w.alloc (.cells #[Value.int .i64 1, Value.int .i64 0] 59)).alloc (.cells #[Value.int .i64 0, Value.int .i64 1] 59)) (w.heap.size + 1) 0 1) := by
    have h := pair_new (w.alloc (.cells #[Value.int .i64 1, Value.int .i64 0] 59)) 0 1
    have e : (w.alloc (.cells #[Value.int .i64 1, Value.int .i64 0] 59)).heap.size = w.heap.size + 1 := by simp
    rw [e] at h
    exact h
  have HB := Lib.hid (below_two (below_new w (.cells #[Value.int .i64 1, Value.int .i64 0] 59)) (below_new _ (.cells #[Value.int .i64 0, Value.int .i64 1] 59)))
  clear hh h0
  go_enter Try.func47, Try.ntmps47
  go_wp2
  go_loopw [0, 1] (fun xv yv wr => ∃ fa fb sa sb x y : Int, xv = .int .i64 x ∧ yv = .int .i64 y ∧ RowKit.Hid (SInv x0 y0 a b fa fb sa sb x y) ∧ RowKit.Hid (Pair wr w.heap.size fa fb) ∧ RowKit.Hid (Pair wr (w.heap.size + 1) sa sb) ∧ RowKit.Hid (Below w.heap.size w wr)) (fun _ yv _ => (intOf yv).toNat)
  case atStart => exact ⟨1, 0, 0, 1, x0, y0, rfl, rfl, H0, P4, P5, HB⟩
  case round =>
    clear H0 P4 P5 HB
    obtain ⟨fa, fb, sa, sb, x, y, rfl, rfl, Hi, P4, P5, HB⟩ := hrel
    obtain ⟨f1, f2, f3, f4, _⟩ := Hi.out.m1
    obtain ⟨s1, s2, s3, s4, _⟩ := Hi.out.m2
    have yp := Hi.out.yp
    have xb := Hi.out.xb
    have yx := Hi.out.yx
    have n1 := Hi.out.n1
    have n2 := Hi.out.n2
    have n3 := Hi.out.n3
    have n4 := Hi.out.n4
    have c40 := P4.out.c0
    have c41 := P4.out.c1
    have c50 := P5.out.c0
    have c51 := P5.out.c1
    by_cases hgo : y + sa ≠ 0 ∧ y + sb ≠ 0 ∧ (x + fa) / (y + sa) = (x + fb) / (y + sb)
    · obtain ⟨g1, g2, g3⟩ := hgo
      obtain ⟨q, hq⟩ : ∃ q, q = (x + fa) / (y + sa) := ⟨_, rfl⟩
      obtain ⟨hst, hlt, q0⟩ := Hi.out.step Hh.out g1 g2 hq (hq.trans g3)
      have d1 : ((y + sa) != 0) = true := by simpa using g1
      have d2 : ((y + sb) != 0) = true := by simpa using g2
      have d3 : ((y + sa) == 0) = false := by simpa using g1
      have d4 : ((y + sb) == 0) = false := by simpa using g2
      have eq1 : (x + fa) / (y + sa) = q := hq.symm
      have eq2 : (x + fb) / (y + sb) = q := by rw [← g3]; exact hq.symm
      obtain ⟨qa, hqa⟩ : ∃ t, t = q * sa := ⟨_, rfl⟩
      obtain ⟨qb, hqb⟩ : ∃ t, t = q * sb := ⟨_, rfl⟩
      obtain ⟨qy, hqy⟩ : ∃ t, t = q * y := ⟨_, rfl⟩
      rw [← hqa, ← hqb, ← hqy] at hst
      rw [← hqy] at hlt
      obtain ⟨t1, t2, t3, t4, _⟩ := hst.m2
      have z0 := hst.yp
      have p1 : 0 < y + sa := by omega
      have p2 : 0 < y + sb := by omega
      have q62 : q ≤ 4611686020574871552 := by
        rw [hq]
        exact Int.le_trans (Int.ediv_le_self _ n1) (by omega)
      have k1 : RowKit.wrap64 ((x + fa).tdiv (y + sa)) = q := by rw [Int.tdiv_eq_ediv_of_nonneg n1, eq1]; exact IntWalk.wrap64_in _ (by omega)
      have k2 : RowKit.wrap64 ((x + fb).tdiv (y + sb)) = q := by rw [Int.tdiv_eq_ediv_of_nonneg n2, eq2]; exact IntWalk.wrap64_in _ (by omega)
      have k3 : RowKit.wrap64 (q * y) = qy := by rw [← hqy]; exact IntWalk.wrap64_in _ (by omega)
      have w1' : IntKind.i64.wrap (q * sa) = qa := by rw [← hqa]; exact IntWalk.i64_in _ (by omega)
      have w2' : IntKind.i64.wrap (q * sb) = qb := by rw [← hqb]; exact IntWalk.i64_in _ (by omega)
      have w3' : IntKind.i64.wrap (fa - qa) = fa - qa := IntWalk.i64_in _ (by omega)
      have w4' : IntKind.i64.wrap (fb - qb) = fb - qb := IntWalk.i64_in _ (by omega)
      have Hst := Lib.hid hst
      clear hst hq g1 g2 g3 hqa hqb hqy Hi
      go_wp2
      rw [eq1, eq2]
      clear eq1 eq2 k1 k2
      have r40 : wr.drew.cell? ⟨w.heap.size, 0, none⟩ = some (.int .i64 fa) := c40
      have r41 : wr.drew.cell? ⟨w.heap.size, 1, none⟩ = some (.int .i64 fb) := c41
      have r50 : wr.drew.cell? ⟨w.heap.size + 1, 0, none⟩ = some (.int .i64 sa) := c50
      have r51 : wr.drew.cell? ⟨w.heap.size + 1, 1, none⟩ = some (.int .i64 sb) := c51
      have z40 := P4.out.f0 0
      have z41 := P4.out.f0 1
      have z50 := P5.out.f0 0
      have z51 := P5.out.f0 1
      go_region
      have Q4 := Lib.hid ((P4.out.put sa sb).other (k := w.heap.size + 1) (by omega) (.int .i64 (fa - qa)) (.int .i64 (fb - qb)))
      have Q5 := Lib.hid ((P5.out.other (k := w.heap.size) (by omega) (.int .i64 sa) (.int .i64 sb)).put (fa - qa) (fb - qb))
      have QB := Lib.hid (below_put2 (below_put2 HB.out (Nat.le_refl _) (.int .i64 sa) (.int .i64 sb)) (Nat.le_succ _) (.int .i64 (fa - qa)) (.int .i64 (fb - qb)))
      clear r40 r41 r50 r51 z40 z41 z50 z51 c40 c41 c50 c51 P4 P5 HB w1' w2' w3' w4' d1 d2 d3 d4
      generalize ((wr.setCell ⟨w.heap.size, 0, none⟩ (.int .i64 sa)).setCell ⟨w.heap.size, 1, none⟩ (.int .i64 sb)).setCell ⟨w.heap.size + 1, 0, none⟩ (.int .i64 (fa - qa)) = w5 at *
      generalize w5.setCell ⟨w.heap.size + 1, 1, none⟩ (.int .i64 (fb - qb)) = w6 at *
      have R4 : RowKit.Hid (Pair w6.drew w.heap.size sa sb) := Q4.out
      have R5 : RowKit.Hid (Pair w6.drew (w.heap.size + 1) (fa - qa) (fb - qb)) := Q5.out
      have RB : RowKit.Hid (Below w.heap.size w w6.drew) := QB.out.drew
      clear Q4 Q5 QB
      go_wp2
      go_roundw
      case rel => exact ⟨sa, sb, fa - qa, fb - qb, y, x - qy, rfl, rfl, Hst, R4, R5, RB⟩
      case measure => simp [intOf]; omega
    · have Hend := Lib.hid (Hi.out.done Hh.out)
      have z40 := P4.out.f0 0
      have z41 := P4.out.f0 1
      have z50 := P5.out.f0 0
      have z51 := P5.out.f0 1
      have r40 : wr.drew.cell? ⟨w.heap.size, 0, none⟩ = some (.int .i64 fa) := c40
      have r41 : wr.drew.cell? ⟨w.heap.size, 1, none⟩ = some (.int .i64 fb) := c41
      have r50 : wr.drew.cell? ⟨w.heap.size + 1, 0, none⟩ = some (.int .i64 sa) := c50
      have r51 : wr.drew.cell? ⟨w.heap.size + 1, 1, none⟩ = some (.int .i64 sb) := c51
      by_cases g1 : y + sa = 0
      case' pos =>
        have hz : y + sa ≤ 0 := by omega
      case' neg =>
        by_cases g2 : y + sb = 0
        case' pos =>
          have hz : 0 < y + sa := by omega
        case' neg =>
          have p1 : 0 < y + sa := by omega
          have p2 : 0 < y + sb := by omega
          have hz : (x + fa) / (y + sa) ≠ (x + fb) / (y + sb) := fun h => hgo ⟨g1, g2, h⟩
      all_goals
        clear hgo Hi
        go_wp2
      all_goals
        go_region
        have Q4 := Lib.hid ((P4.out.put fa fb).other (k := w.heap.size + 1) (by omega) (.int .i64 sa) (.int .i64 sb))
        have Q5 := Lib.hid ((P5.out.other (k := w.heap.size) (by omega) (.int .i64 fa) (.int .i64 fb)).put sa sb)
        have QB := Lib.hid (below_put2 (below_put2 HB.out (Nat.le_refl _) (.int .i64 fa) (.int .i64 fb)) (Nat.le_succ _) (.int .i64 sa) (.int .i64 sb))
        go_wp2
        refine bodyPost_ret (results_two rfl _ _ w.heap.size (w.heap.size + 1) 59 #[Value.int .i64 fa, Value.int .i64 fb] #[Value.int .i64 sa, Value.int .i64 sb] (0, 0) _ rfl rfl Q4.out Q5.out Try.underlying59 rfl mix_size mix_size) rfl ?_
        exact ⟨fa, fb, sa, sb, rfl, Hend.out, QB.out.drew⟩

end Go.Proofs.Ytbenkbgdahcaaaa
