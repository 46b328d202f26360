/- Part 3 of the texts that the statements of this seat lean on: mathematics, and what functions answer, as contracts over memory; each part says its own conditions. -/
import Derived.Test.YtmifgblbicnimaaM2
import Derived.Laws.Rows
import Derived.Deep.RegionHeld3
import Derived.Deep.CutRange
import Derived.Laws.BitsAllLaws
/- What the reference's Of of layer 2 comes to, as a contract over memory: the product, in shortest limbs. Conditions: both lists read as limbs, of at most 10^6 of them. -/
namespace Go.Proofs.Ytmifgblbicnimaa
open Go.RowKit Limb
set_option linter.unusedVariables false

theorem mul_step (a : Nat) (ys : List Nat) (k : Nat) : a * val (ys.take k) + a * lim ys k * 2 ^ (32 * k) = a * val (ys.take (k + 1)) := by
  rw [val_take_lim, Nat.mul_add, pow32, Nat.mul_assoc, Nat.mul_comm (lim ys k)]

theorem mul_room {w : World} {A A' : Option Addr} {n c n' c' : Nat} {xs ys : List Nat} {a b L L' : Nat} (hx : NN w A n c xs a L) (hy : NN w A' n' c' ys b L') (k : Nat) : a * val (ys.take k) < 4294967296 ^ (L + L') := by
  have h1 := lt_pow hx
  have h2 := val_lt (small_take hy.isN.small k)
  have h3 : 4294967296 ^ (ys.take k).length ≤ 4294967296 ^ L' := Nat.pow_le_pow_right (by decide) (by rw [List.length_take, hy.isN.len]; have := hy.le; omega)
  rw [Nat.pow_add]
  exact Nat.mul_lt_mul'' h1 (Nat.lt_of_lt_of_le h2 h3)

theorem up_fits {t L k : Nat} (h : t < 4294967296 ^ L) : t * 2 ^ (32 * k) < 4294967296 ^ (L + k) := by
  rw [Nat.pow_add, ← pow32]
  exact Nat.mul_lt_mul_of_pos_right h (Nat.pow_pos (by decide))

set_option maxHeartbeats 1600000 in
theorem refMul_c {A A' : Option Addr} {n c n' c' : Nat} {xs ys : List Nat} {a b L L' : Nat} {w : World} (hx : NN w A n c xs a L) (hy : NN w A' n' c' ys b L') (h1 : L ≤ 1000000) (h2 : L' ≤ 1000000) :
    Calls Try.prog 34 #[.slice A n c, .slice A' n' c'] w fun e w' => ∃ A2 n2 c2, e = .returned (.slice A2 n2 c2) ∧ NN w' A2 n2 c2 (limbs (a * b)) (a * b) (L + L') ∧ Below w.heap.size w w' := by
  have hle := hx.le
  have hle' := hy.le
  have Hly := Lib.hid hy.isN.len
  have hsy := hy.isN.small
  have Hyv : RowKit.Hid (val ys = b) := hy.val
  have Hroom := Lib.hid (fun k => mul_room hx hy k)
  have H0 : RowKit.Hid (∀ wr : World, NN wr none 0 0 (limbs (a * val (ys.take 0))) (a * val (ys.take 0)) (L + L')) := by
    intro wr
    have e : a * val (ys.take 0) = 0 := by simp [val]
    rw [e]
    exact ⟨IsN.nil _ _, rfl, Nat.le_refl _, Nat.zero_le _⟩
  go_enter Try.func34, Try.ntmps34
  go_wp2
  go_loopw [6, 5] (fun i ov wr => ∃ (k t : Nat) (A2 : Option Addr) (n2 c2 : Nat), k ≤ n' ∧ i = .int .i64 (k : Int) ∧ ov = .slice A2 n2 c2 ∧ RowKit.Hid (t = a * val (ys.take k)) ∧ NN wr A2 n2 c2 (limbs t) t (L + L') ∧ Below w.heap.size w wr) (fun i _ _ => n' - (intOf i).toNat)
  case atStart => exact ⟨0, _, none, 0, 0, by omega, rfl, rfl, rfl, H0.out _, Below.refl _ _⟩
  case round =>
    obtain ⟨k, t, A2, n2, c2, hk, rfl, rfl, Ht, ho, bw⟩ := hrel
    have h_x := hx.below bw
    have h_y := hy.below bw
    by_cases hgo : k < n'
    · obtain ⟨b1, o1, hA, hb1, hc1⟩ := h_y.isN.2.2 (by omega)
      subst hA
      have hcell : wr.cell? ⟨b1, o1 + k, none⟩ = some (.int .u32 ((lim ys k : Nat) : Int)) := hc1 k hgo
      have l1 := lim_lt hsy k
      clear hx hy
      go_wp2_with fail
      refine (refSmall_c h_x (lim ys k) _ rfl l1 (by omega)).mono ?_
      rintro e w1 ⟨A3, n3, c3, rfl, h3, bn⟩
      replace ho := ho.below bn
      replace h_x := h_x.below bn
      replace h_y := h_y.below bn
      replace bw := below_two bw bn
      clear bn
      go_wp2_with fail
      refine (refUp_c h3 (32 * k) _ (by omega) (by omega) (by omega) (L + 1 + k) (up_fits (lt_pow h3))).mono ?_
      rintro e w2 ⟨A4, n4, c4, rfl, h4, bn⟩
      replace ho := ho.below bn
      replace h_x := h_x.below bn
      replace h_y := h_y.below bn
      replace bw := below_two bw bn
      clear bn h3
      go_wp2_with fail
      refine (refAdd_c ho h4 (by omega) (by omega)).mono ?_
      rintro e w3 ⟨A5, n5, c5, rfl, h5, bn⟩
      replace bw := below_two bw bn
      clear bn h4 ho h_x h_y
      have e1 : t + a * lim ys k * 2 ^ (32 * k) = a * val (ys.take (k + 1)) := by rw [Ht.out, mul_step]
      rw [e1] at h5
      have h6 := h5.relax (Hroom.out (k + 1))
      clear h5 e1
      obtain ⟨u, hu⟩ : ∃ u, u = a * val (ys.take (k + 1)) := ⟨_, rfl⟩
      rw [← hu] at h6
      have Hu := Lib.hid hu
      clear hu
      go_wp2
      go_roundw
      case rel => exact ⟨k + 1, u, A5, n5, c5, by omega, by go_num, rfl, Hu, h6, bw⟩
      case measure => simp [intOf]; omega
    · obtain rfl : k = n' := by omega
      have Ht2 : RowKit.Hid (t = a * b) := by
        have h := Ht.out
        rw [List.take_of_length_le (by rw [Hly.out]; exact Nat.le_refl _), Hyv.out] at h
        exact h
      clear hx hy
      go_wp2_with fail
      refine (refTrim_c ho (by omega)).mono ?_
      rintro e w4 ⟨A4, n4, c4, rfl, h4, bn⟩
      rw [Ht2.out] at h4
      go_wp2
      go_ret
      exact ⟨_, _, _, rfl, h4, below_two bw bn⟩

end Go.Proofs.Ytmifgblbicnimaa

/- What the reference's Pow of layer 2 comes to, as a contract over memory: the power bit by bit, and whether there is one. Conditions: the list reads as limbs, of at most 10^5 of them. -/
namespace Go.Proofs.Ytmifgblbicnimaa
open Go.RowKit Limb
set_option linter.unusedVariables false

theorem below_put {w wr : World} {g : Nat} (h : Below w.heap.size w wr) (hg : w.heap.size ≤ g) (u v : Value) : Below w.heap.size w ((wr.setCell ⟨g, 0, none⟩ u).setCell ⟨g, 1, none⟩ v) :=
  (h.setCell (by exact hg) _).setCell (by exact hg) _

end Go.Proofs.Ytmifgblbicnimaa

/- What the statements' helpers keep.Int and keep.OwnInt, and the reference of layer 6, answer, as contracts over memory. Conditions: sizes of at most so many limbs. -/
namespace Go.Proofs.Ytmifgblbicnimaa
open Go.RowKit Limb
set_option linter.unusedVariables false

theorem zsame {x y : Int} (h : x = y) : (decide (sg x = sg y) && same (limbs x.natAbs) (limbs y.natAbs)) = true := by
  subst h; rw [same_self]; simp
theorem zdiff {x y : Int} (h : x ≠ y) : (decide (sg x = sg y) && same (limbs x.natAbs) (limbs y.natAbs)) = false := by
  by_cases h1 : x.natAbs = y.natAbs
  · have : sg x ≠ sg y := by
      unfold sg
      intro e
      have e2 := decide_eq_decide.1 e
      omega
    simp [this]
  · rw [same_limbs_ne h1]; simp

theorem int_size : (Try.prog.info? 25).map (·.size) = some 2 := by kernel_rfl

/-- A list of limbs stays where a struct of a sign and a slice is filled. -/
theorem NN.put2 {w : World} {A : Option Addr} {n c : Nat} {xs : List Nat} {a L g : Nat} {T : TypeId} {b0 : Bool} {A0 : Option Addr} {n0 c0 : Nat} (h : NN w A n c xs a L) (hb : Row2 w g T (.bool b0) (.slice A0 n0 c0)) (u v : Value) : NN ((w.setCell ⟨g, 0, none⟩ u).setCell ⟨g, 1, none⟩ v) A n c xs a L := by
  refine ⟨⟨h.isN.1, h.isN.2.1, fun hn => ?_⟩, h.val, h.cap, h.le⟩
  obtain ⟨b, o, e, hlt, hc⟩ := h.isN.2.2 hn
  have hbg : b ≠ g := by
    rintro rfl
    have h1 := hc 0 hn
    unfold Row2 at hb
    match o, h1 with
    | 0, h1 => simp [World.cell?, hb] at h1
    | 1, h1 => simp [World.cell?, hb] at h1
    | o + 2, h1 => simp [World.cell?, hb] at h1
  refine ⟨b, o, e, by simpa [World.setCell] using hlt, fun j hj => ?_⟩
  rw [cell_setCell_ne _ _ (by intro e; injection e with e; exact hbg e.symm), cell_setCell_ne _ _ (by intro e; injection e with e; exact hbg e.symm)]
  exact hc j hj

section
variable {w : World} {s s' : Bool} {A A' : Option Addr} {n c n' c' : Nat} {xs ys : List Nat} {x y : Int} {L L' : Nat}

theorem keepInt_c (hx : ZZ w s A n c xs x L) (hy : ZZ w s' A' n' c' ys y L') (h1 : L ≤ 1000000000) (h2 : L' ≤ 1000000000) (v : Bool) (hv : (decide (s = s') && same xs ys) = v) :
    Calls Try.prog 35 #[.agg #[.bool s, .slice A n c], .agg #[.bool s', .slice A' n' c']] w fun e w' => e = .returned (.bool v) ∧ Below w.heap.size w w' := by
  have Hx := Lib.hid hx.nn
  have Hy := Lib.hid hy.nn
  have Hv := Lib.hid hv
  have HW : RowKit.Hid (Below w.heap.size w ((w.alloc (.cells #[Value.bool s, Value.slice A n c] 25)).alloc (.cells #[Value.bool s', Value.slice A' n' c'] 25))) := below_two (below_new _ _) (below_new _ _)
  clear hx hy hv
  by_cases hs : s = s'
  · subst hs
    go_enter Try.func35, Try.ntmps35
    go_wp2_with fail
    refine (keep_c (Hx.out.below HW.out) (Hy.out.below HW.out) h1 h2 v (by have := Hv.out; simpa using this)).mono ?_
    rintro e w1 ⟨rfl, bn⟩
    have HW1 := Lib.hid (below_two HW.out bn)
    clear bn HW
    go_wp2
    go_ret
    exact ⟨rfl, HW1.out⟩
  · go_enter Try.func35, Try.ntmps35
    have hs2 : (s == s') = false := by simpa using hs
    have Hv2 : RowKit.Hid (v = false) := by show _ = _; rw [← Hv.out]; simp [hs]
    clear hs Hv
    go_wp2
    go_ret
    exact ⟨by rw [Hv2.out]; rfl, HW.out⟩

theorem ownInt_c (hx : ZZ w s A n c xs x L) (h1 : L ≤ 1000000000) :
    Calls Try.prog 22 #[.agg #[.bool s, .slice A n c]] w fun e w' => ∃ A2 n2 c2, e = .returned (.agg #[.bool s, .slice A2 n2 c2]) ∧ ZZ w' s A2 n2 c2 xs x L ∧ Below w.heap.size w w' := by
  have b1 := below_new w (.cells #[Value.bool s, Value.slice A n c] 25)
  have b2 := below_new (w.alloc (.cells #[Value.bool s, Value.slice A n c] 25)) (.cells #[Value.bool false, Value.slice none 0 0] 25)
  have HW := Lib.hid (below_two b1 b2)
  have HN := Lib.hid (hx.nn.below HW.out)
  have HS := Lib.hid hx.sgn
  have r1 := (row2_new w 25 (.bool s) (.slice A n c)).below b2
  have r2 := row2_new (w.alloc (.cells #[Value.bool s, Value.slice A n c] 25)) 25 (.bool false) (.slice none 0 0)
  rw [World.size_alloc] at r2
  clear b1 b2 hx
  go_enter Try.func22, Try.ntmps22
  go_wp2
  generalize (w.alloc (.cells #[Value.bool s, Value.slice A n c] 25)).alloc (.cells #[Value.bool false, Value.slice none 0 0] 25) = w1 at *
  have HR1 := Lib.hid r1
  have HR2 := Lib.hid r2
  have c0 := r1.c0
  have c1 := r1.c1
  clear r1 r2
  go_region_with (go_at_call 23; (with_reducible refine (own_any _ _ _ _ _ _ _ (by first | exact HN.out | exact HN.out.below (Below.refl _ _).drew) h1).mono ?_); rintro e w2 ⟨A2, n2, c2, rfl, h2, bn⟩; have bn1 : Below w1.heap.size w1 w2 := (by first | exact bn | exact below_two (Below.refl _ _).drew bn); have d0 := (HR1.out.below bn1).c0; have d1 := (HR1.out.below bn1).c1; have e0 := (HR2.out.below bn1).c0; have e1 := (HR2.out.below bn1).c1; have f0 := (HR2.out.below bn1).free 0; have f1 := (HR2.out.below bn1).free 1)
  all_goals
    have HR := HR2.out.below bn1
    have HZ := Lib.hid (h2.put2 HR (.bool s) (.slice A2 n2 c2))
    have HB := Lib.hid (below_fill (below_two HW.out bn1) (Nat.le_succ _) (.bool s) (.slice A2 n2 c2))
    have HF := Lib.hid (HR.fill (.bool s) (.slice A2 n2 c2))
    clear d0 d1 e0 e1 f0 f1 bn bn1 HR h2 c0 c1
    go_wp2
    refine bodyPost_ret (results_cell_row rfl _ _ (w.heap.size + 1) 25 #[.bool s, .slice A2 n2 c2] (0, 0) _ rfl HF.out Try.underlying25 rfl int_size) rfl ?_
    exact ⟨A2, n2, c2, rfl, ⟨HZ.out, HS.out⟩, HB.out⟩

end

end Go.Proofs.Ytmifgblbicnimaa

/- Two structs of a sign and a slice that two calls answer and that go to two new variables ('x, y := f(..), g(..)'): Go leaves open when the variables are made; whatever the order, both boxes hold the answers. No condition. -/
namespace Go.Proofs.Ytmifgblbicnimaa
open Go.RowKit Limb
set_option linter.unusedVariables false

/-- A new box of the zero struct. -/
abbrev zbox : Obj := .cells #[Value.bool false, Value.slice none 0 0] 25
/-- The box at g holds the zero struct. -/
def ZB (w : World) (g : Nat) : Prop := Row2 w g 25 (.bool false) (.slice none 0 0)

theorem zb1 {w w' : World} (bn : Below (w.alloc zbox).heap.size (w.alloc zbox) w') : ZB w' w.heap.size := (row2_new w _ _ _).below bn
theorem zb1d {w w' : World} (bn : Below (w.alloc zbox).drew.heap.size (w.alloc zbox).drew w') : ZB w' w.heap.size := Row2.below (w := (w.alloc zbox).drew) (row2_new w _ _ _) bn
theorem zb2 {w w' : World} (bn : Below ((w.alloc zbox).alloc zbox).heap.size ((w.alloc zbox).alloc zbox) w') : ZB w' w.heap.size ∧ ZB w' (w.heap.size + 1) := by
  refine ⟨Row2.below (w := (w.alloc zbox).alloc zbox) ((row2_new w _ _ _).below (below_new _ _)) bn, ?_⟩
  have h := Row2.below (row2_new (w.alloc zbox) 25 (.bool false) (.slice none 0 0)) bn
  rw [World.size_alloc] at h
  exact h
theorem zb2d {w w' : World} (bn : Below ((w.alloc zbox).alloc zbox).drew.heap.size ((w.alloc zbox).alloc zbox).drew w') : ZB w' w.heap.size ∧ ZB w' (w.heap.size + 1) := by
  refine ⟨Row2.below (w := ((w.alloc zbox).alloc zbox).drew) (g := w.heap.size) (show Row2 ((w.alloc zbox).alloc zbox) w.heap.size 25 (.bool false) (.slice none 0 0) from (row2_new w _ _ _).below (below_new _ _)) bn, ?_⟩
  have h := Row2.below (w := ((w.alloc zbox).alloc zbox).drew) (g := (w.alloc zbox).heap.size) (row2_new (w.alloc zbox) 25 (.bool false) (.slice none 0 0)) bn
  rw [World.size_alloc] at h
  exact h
theorem ZB.below {w w' : World} {g : Nat} (h : ZB w g) (hb : Below w.heap.size w w') : ZB w' g := Row2.below h hb
theorem ZB.lt {w : World} {g : Nat} (h : ZB w g) : g < w.heap.size := Row2.lt h
theorem ZB.cells {w : World} {g : Nat} (h : ZB w g) : w.cell? ⟨g, 0, none⟩ = some (.bool false) ∧ w.cell? ⟨g, 1, none⟩ = some (.slice none 0 0) ∧ w.frozen? ⟨g, 0, none⟩ = false ∧ w.frozen? ⟨g, 1, none⟩ = false := ⟨h.c0, h.c1, h.free 0, h.free 1⟩

theorem ZB.apart {w : World} {g : Nat} (h : ZB w g) : w.heap.size ≠ g ∧ w.heap.size + 1 ≠ g := by have := h.lt; omega
theorem ZZ.put {w : World} {s : Bool} {A : Option Addr} {n c : Nat} {xs : List Nat} {z : Int} {L g : Nat} (h : ZZ w s A n c xs z L) (hb : ZB w g) (u v : Value) : ZZ ((w.setCell ⟨g, 0, none⟩ u).setCell ⟨g, 1, none⟩ v) s A n c xs z L := ⟨h.nn.put2 hb u v, h.sgn⟩
theorem Row2.far {w : World} {g g' : Nat} {T : TypeId} {u v : Value} (h : Row2 w g' T u v) (hne : g ≠ g') (x y : Value) : Row2 ((w.setCell ⟨g, 0, none⟩ x).setCell ⟨g, 1, none⟩ y) g' T u v := by
  unfold Row2 at h ⊢
  simp only [World.setCell, Array.getElem?_modify]
  rw [if_neg hne, if_neg hne]
  exact h
theorem Row2.filled {w : World} {g : Nat} {T : TypeId} {u v : Value} (h : Row2 w g T u v) (x y : Value) : Row2 ((w.setCell ⟨g, 0, none⟩ x).setCell ⟨g, 1, none⟩ y) g T x y := h.fill x y

section
variable {wP w : World} {q r : Nat} {s : Bool} {A : Option Addr} {n c : Nat} {xs : List Nat} {z : Int} {L : Nat} {s' : Bool} {A' : Option Addr} {n' c' : Nat} {xs' : List Nat} {z' : Int} {L' : Nat}

/-- Both boxes hold the answers. -/
structure Two (wP wx : World) (q r : Nat) (s : Bool) (A : Option Addr) (n c : Nat) (xs : List Nat) (z : Int) (L : Nat) (s' : Bool) (A' : Option Addr) (n' c' : Nat) (xs' : List Nat) (z' : Int) (L' : Nat) : Prop where
  q : Row2 wx q 25 (.bool s) (.slice A n c)
  r : Row2 wx r 25 (.bool s') (.slice A' n' c')
  z : ZZ wx s A n c xs z L
  z' : ZZ wx s' A' n' c' xs' z' L'
  b : Below wP.heap.size wP wx

/-- Both variables were made ahead of the second call. -/
theorem two_pp (hz : ZZ w s A n c xs z L) (hz' : ZZ w s' A' n' c' xs' z' L') (hb : Below wP.heap.size wP w) (h1 : ZB w q) (h2 : ZB w r) (hne : q ≠ r) (hq : wP.heap.size ≤ q) (hr : wP.heap.size ≤ r) :
    Two wP ((((w.setCell ⟨q, 0, none⟩ (.bool s)).setCell ⟨q, 1, none⟩ (.slice A n c)).setCell ⟨r, 0, none⟩ (.bool s')).setCell ⟨r, 1, none⟩ (.slice A' n' c')) q r s A n c xs z L s' A' n' c' xs' z' L' := by
  have h3 : ZB ((w.setCell ⟨q, 0, none⟩ (.bool s)).setCell ⟨q, 1, none⟩ (.slice A n c)) r := Row2.far h2 hne _ _
  exact ⟨(Row2.filled h1 _ _).far (Ne.symm hne) _ _, Row2.filled h3 _ _, (hz.put h1 _ _).put h3 _ _, (hz'.put h1 _ _).put h3 _ _, (((hb.setCell (p := ⟨q, 0, none⟩) hq _).setCell (p := ⟨q, 1, none⟩) hq _).setCell (p := ⟨r, 0, none⟩) hr _).setCell (p := ⟨r, 1, none⟩) hr _⟩
theorem size_set2 (w : World) (q : Nat) (u v : Value) : ((w.setCell ⟨q, 0, none⟩ u).setCell ⟨q, 1, none⟩ v).heap.size = w.heap.size := by simp [World.setCell]
/-- The first one ahead, the second one behind. -/
theorem two_pl (hz : ZZ w s A n c xs z L) (hz' : ZZ w s' A' n' c' xs' z' L') (hb : Below wP.heap.size wP w) (h1 : ZB w q) (hq : wP.heap.size ≤ q) :
    Two wP (((w.setCell ⟨q, 0, none⟩ (.bool s)).setCell ⟨q, 1, none⟩ (.slice A n c)).alloc (.cells #[Value.bool s', Value.slice A' n' c'] 25)) q w.heap.size s A n c xs z L s' A' n' c' xs' z' L' := by
  have b := below_new ((w.setCell ⟨q, 0, none⟩ (.bool s)).setCell ⟨q, 1, none⟩ (.slice A n c)) (.cells #[Value.bool s', Value.slice A' n' c'] 25)
  have h2 := row2_new ((w.setCell ⟨q, 0, none⟩ (.bool s)).setCell ⟨q, 1, none⟩ (.slice A n c)) 25 (.bool s') (.slice A' n' c')
  rw [size_set2] at h2
  exact ⟨(Row2.filled h1 _ _).below b, h2, (hz.put h1 _ _).below b, (hz'.put h1 _ _).below b, below_two ((hb.setCell (p := ⟨q, 0, none⟩) hq _).setCell (p := ⟨q, 1, none⟩) hq _) b⟩
/-- The second one ahead, the first one behind. -/
theorem two_lp (hz : ZZ w s A n c xs z L) (hz' : ZZ w s' A' n' c' xs' z' L') (hb : Below wP.heap.size wP w) (h2 : ZB w r) (hr : wP.heap.size ≤ r) :
    Two wP (((w.setCell ⟨r, 0, none⟩ (.bool s')).setCell ⟨r, 1, none⟩ (.slice A' n' c')).alloc (.cells #[Value.bool s, Value.slice A n c] 25)) w.heap.size r s A n c xs z L s' A' n' c' xs' z' L' := by
  have b := below_new ((w.setCell ⟨r, 0, none⟩ (.bool s')).setCell ⟨r, 1, none⟩ (.slice A' n' c')) (.cells #[Value.bool s, Value.slice A n c] 25)
  have h1 := row2_new ((w.setCell ⟨r, 0, none⟩ (.bool s')).setCell ⟨r, 1, none⟩ (.slice A' n' c')) 25 (.bool s) (.slice A n c)
  rw [size_set2] at h1
  exact ⟨h1, (Row2.filled h2 _ _).below b, (hz.put h2 _ _).below b, (hz'.put h2 _ _).below b, below_two ((hb.setCell (p := ⟨r, 0, none⟩) hr _).setCell (p := ⟨r, 1, none⟩) hr _) b⟩
/-- Both behind. -/
theorem two_ll (hz : ZZ w s A n c xs z L) (hz' : ZZ w s' A' n' c' xs' z' L') (hb : Below wP.heap.size wP w) :
    Two wP ((w.alloc (.cells #[Value.bool s, Value.slice A n c] 25)).alloc (.cells #[Value.bool s', Value.slice A' n' c'] 25)) w.heap.size (w.heap.size + 1) s A n c xs z L s' A' n' c' xs' z' L' := by
  have b1 := below_new w (.cells #[Value.bool s, Value.slice A n c] 25)
  have b2 := below_new (w.alloc (.cells #[Value.bool s, Value.slice A n c] 25)) (.cells #[Value.bool s', Value.slice A' n' c'] 25)
  have h2 := row2_new (w.alloc (.cells #[Value.bool s, Value.slice A n c] 25)) 25 (.bool s') (.slice A' n' c')
  rw [World.size_alloc] at h2
  exact ⟨(row2_new w _ _ _).below b2, h2, (hz.below b1).below b2, (hz'.below b1).below b2, below_two (below_two hb b1) b2⟩
theorem two_ll' (hz : ZZ w s A n c xs z L) (hz' : ZZ w s' A' n' c' xs' z' L') (hb : Below wP.heap.size wP w) :
    Two wP ((w.alloc (.cells #[Value.bool s', Value.slice A' n' c'] 25)).alloc (.cells #[Value.bool s, Value.slice A n c] 25)) (w.heap.size + 1) w.heap.size s A n c xs z L s' A' n' c' xs' z' L' :=
  let h := two_ll hz' hz hb
  ⟨h.r, h.q, h.z', h.z, h.b⟩
end

end Go.Proofs.Ytmifgblbicnimaa

/- Rational numbers in memory: a struct of a sign and two lists of limbs that reads as a number, or as none. No condition. -/
namespace Go.Proofs.Ytmifgblbicnimaa
open Go.RowKit Limb
set_option linter.unusedVariables false

theorem NN.short {w : World} {A : Option Addr} {n c : Nat} {xs : List Nat} {a L K : Nat} (h : NN w A n c xs a L) (hK : n ≤ K) : NN w A n c xs a K := ⟨h.isN, h.val, h.cap, hK⟩
/-- A sign and two slices read as the number o, or as none that may be. -/
structure QQ (w : World) (s : Bool) (A : Option Addr) (n c : Nat) (xs : List Nat) (B : Option Addr) (m d : Nat) (ys : List Nat) (o : Option Rat) (L : Nat) : Prop where
  top : ZZ w s A n c xs (zOf s (Limb.val xs)) L
  bot : NN w B m d ys (Limb.val ys) L
  rd : readQ s xs ys = o
theorem QQ.below {w w' : World} {s : Bool} {A : Option Addr} {n c : Nat} {xs : List Nat} {B : Option Addr} {m d : Nat} {ys : List Nat} {o : Option Rat} {L : Nat} (h : QQ w s A n c xs B m d ys o L) (hb : Below w.heap.size w w') : QQ w' s A n c xs B m d ys o L :=
  ⟨h.top.below hb, h.bot.below hb, h.rd⟩
/-- What is told: a number in the shortest limbs, or 0 and nothing. -/
abbrev QT (w : World) (A : Option Addr) (n c : Nat) (B : Option Addr) (m d : Nat) (o : Option Rat) : Prop :=
  QQ w (sg (oTop o)) A n c (limbs (oTop o).natAbs) B m d (limbs (oBot o)) o 64
theorem qt_some {w : World} {A : Option Addr} {n c : Nat} {B : Option Addr} {m d : Nat} {q : Rat} {L L' : Nat} (hz : ZZ w (sg q.num) A n c (limbs q.num.natAbs) q.num L) (hn : NN w B m d (limbs q.den) q.den L') (hf : fitsQ q = true) : QT w A n c B m d (some q) := by
  have h2 := hf
  simp only [fitsQ, Bool.and_eq_true, decide_eq_true_eq] at h2
  refine ⟨?_, ?_, readQ_told hf⟩
  · show ZZ w (sg q.num) A n c (limbs q.num.natAbs) (zOf (sg q.num) (Limb.val (limbs q.num.natAbs))) 64
    rw [val_limbs, zOf_sg]
    exact ⟨hz.nn.relax h2.1, hz.sgn⟩
  · show NN w B m d (limbs q.den) (Limb.val (limbs q.den)) 64
    rw [val_limbs]
    exact hn.relax h2.2
theorem qt_none (w : World) (c d : Nat) : QT w none 0 0 none 0 0 none := by
  have e1 : limbs (oTop none).natAbs = [] := limbs_zero
  have e2 : limbs (oBot none) = [] := limbs_zero
  refine ⟨?_, ?_, readQ_no goodV_none⟩
  · rw [e1]; exact ⟨⟨IsN.nil _ _, rfl, Nat.le_refl _, Nat.zero_le _⟩, rfl⟩
  · rw [e2]; exact ⟨IsN.nil _ _, rfl, Nat.le_refl _, Nat.zero_le _⟩
/-- Of what may be, the top and the bottom. -/
theorem QQ.some {w : World} {s : Bool} {A : Option Addr} {n c : Nat} {xs : List Nat} {B : Option Addr} {m d : Nat} {ys : List Nat} {q : Rat} {L : Nat} (h : QQ w s A n c xs B m d ys (some q) L) :
    s = sg q.num ∧ xs = limbs q.num.natAbs ∧ ys = limbs q.den ∧ fitsQ q = true ∧ ZZ w s A n c xs q.num 64 ∧ NN w B m d ys q.den 64 ∧ goodV s xs ys = true := by
  have hg : goodV s xs ys = true := by
    cases h2 : goodV s xs ys with
    | true => rfl
    | false => have := h.rd; rw [readQ_no h2] at this; cases this
  obtain ⟨q', e, h1, h2, h3, h4, h5, h6⟩ := readQ_yes hg
  have := h.rd
  rw [e] at this
  injection this with this
  subst this
  have hf := h4
  simp only [fitsQ, Bool.and_eq_true, decide_eq_true_eq] at hf
  refine ⟨h1, h2, h3, h4, ?_, ?_, hg⟩
  · have ht := h.top
    rw [← h5] at ht
    refine ⟨?_, ht.sgn⟩
    have hn := ht.nn
    rw [h2] at hn ⊢
    exact hn.relax hf.1
  · have hb := h.bot
    rw [← h6] at hb
    rw [h3] at hb ⊢
    exact hb.relax hf.2
theorem QQ.none {w : World} {s : Bool} {A : Option Addr} {n c : Nat} {xs : List Nat} {B : Option Addr} {m d : Nat} {ys : List Nat} {L : Nat} (h : QQ w s A n c xs B m d ys none L) : goodV s xs ys = false := by
  cases h2 : goodV s xs ys with
  | false => rfl
  | true =>
    obtain ⟨q', e, _⟩ := readQ_yes h2
    have := h.rd
    rw [e] at this
    cases this
theorem QQ.good {w : World} {s : Bool} {A : Option Addr} {n c : Nat} {xs : List Nat} {B : Option Addr} {m d : Nat} {ys : List Nat} {o : Option Rat} {L : Nat} (h : QQ w s A n c xs B m d ys o L) : goodV s xs ys = o.isSome := by
  cases o with
  | none => exact h.none
  | some q => exact h.some.2.2.2.2.2.2
/-- Two that are told are alike just if they are one. -/
theorem keepQ {o o' : Option Rat} (h : o = o') : (decide (sg (oTop o) = sg (oTop o')) && same (limbs (oTop o).natAbs) (limbs (oTop o').natAbs) && same (limbs (oBot o)) (limbs (oBot o'))) = true := by
  subst h; rw [same_self, same_self]; simp
theorem keepQ_ne {p q : Rat} (h : p ≠ q) : (decide (sg p.num = sg q.num) && same (limbs p.num.natAbs) (limbs q.num.natAbs) && same (limbs p.den) (limbs q.den)) = false := by
  by_cases h1 : p.num = q.num
  · have h2 : p.den ≠ q.den := fun e => h (Rat.ext h1 e)
    rw [same_limbs_ne h2]; simp
  · have e : (decide (sg p.num = sg q.num) && same (limbs p.num.natAbs) (limbs q.num.natAbs)) = false := by
      by_cases h3 : p.num.natAbs = q.num.natAbs
      · have : sg p.num ≠ sg q.num := by
          intro e
          apply h1
          rw [← zOf_sg (z := p.num), ← zOf_sg (z := q.num), e, h3]
        simp [this]
      · rw [same_limbs_ne h3]; simp
    rw [e]; rfl

end Go.Proofs.Ytmifgblbicnimaa

/- Mathematics of the order of rational numbers and of how many limbs sums and products have. No condition. -/
namespace Go.Proofs.Ytmifgblbicnimaa
open Go.RowKit Limb
set_option linter.unusedVariables false

theorem cmpQ_lt {p q : Rat} (h : p < q) : cmpQ p q = -1 := cmpZ_lt (Rat.lt_iff p q |>.1 h)
theorem cmpQ_eq {p q : Rat} (h : p = q) : cmpQ p q = 0 := by subst h; exact cmpZ_eq rfl
theorem cmpQ_gt {p q : Rat} (h : q < p) : cmpQ p q = 1 := cmpZ_gt (Rat.lt_iff q p |>.1 h)
theorem rat_tri (p q : Rat) : p < q ∨ p = q ∨ q < p := by
  by_cases h : p < q
  · exact .inl h
  · rcases Rat.le_iff_lt_or_eq.1 (Rat.not_lt.1 h) with h2 | h2
    · exact .inr (.inr h2)
    · exact .inr (.inl h2.symm)
theorem cmpQ_bounds (p q : Rat) : -1 ≤ cmpQ p q ∧ cmpQ p q ≤ 1 := cmpZ_bounds _ _
theorem cmpQ_swap (p q : Rat) : cmpQ q p = -cmpQ p q := cmpZ_swap _ _
theorem cmpQ_zero (p q : Rat) : cmpQ p q = 0 ↔ p = q := by
  constructor
  · intro h
    rcases rat_tri p q with h2 | h2 | h2
    · rw [cmpQ_lt h2] at h; cases h
    · exact h2
    · rw [cmpQ_gt h2] at h; cases h
  · exact cmpQ_eq
theorem cmpQ_add (p q r : Rat) : cmpQ (p + r) (q + r) = cmpQ p q := by
  rcases rat_tri p q with h | h | h
  · rw [cmpQ_lt h, cmpQ_lt (Rat.add_lt_add_right.2 h)]
  · subst h; rw [cmpQ_eq rfl, cmpQ_eq rfl]
  · rw [cmpQ_gt h, cmpQ_gt (Rat.add_lt_add_right.2 h)]
theorem cmpQ_neg (p q : Rat) : cmpQ (-p) (-q) = -cmpQ p q := by
  rcases rat_tri p q with h | h | h
  · rw [cmpQ_lt h, cmpQ_gt (Rat.neg_lt_neg_iff.2 h)]; rfl
  · subst h; rw [cmpQ_eq rfl, cmpQ_eq rfl]; rfl
  · rw [cmpQ_gt h, cmpQ_lt (Rat.neg_lt_neg_iff.2 h)]
theorem cmpQ_sub (p q : Rat) : cmpQ (p - q) 0 = cmpQ p q := by
  have h := cmpQ_add (p - q) 0 q
  rw [Rat.sub_eq_add_neg, Rat.add_assoc, Rat.neg_add_cancel, Rat.add_zero, Rat.zero_add] at h
  rw [Rat.sub_eq_add_neg]
  exact h.symm
theorem cmpQ_mul (p q r : Rat) : cmpQ (p * r) (q * r) = cmpQ p q * cmpQ r 0 := by
  rcases rat_tri r 0 with hr | hr | hr
  · have e : ∀ x : Rat, x * r = -(x * -r) := fun x => by rw [Rat.mul_neg, Rat.neg_neg]
    rw [e p, e q, cmpQ_neg, cmpQ_lt hr]
    have hr2 : 0 < -r := by rw [← Rat.neg_zero]; exact Rat.neg_lt_neg_iff.2 hr
    rcases rat_tri p q with h | h | h
    · rw [cmpQ_lt h, cmpQ_lt (Rat.mul_lt_mul_of_pos_right h hr2)]; rfl
    · subst h; rw [cmpQ_eq rfl, cmpQ_eq rfl]; rfl
    · rw [cmpQ_gt h, cmpQ_gt (Rat.mul_lt_mul_of_pos_right h hr2)]; rfl
  · subst hr; rw [Rat.mul_zero, Rat.mul_zero, cmpQ_eq rfl, Int.mul_zero]
  · rw [cmpQ_gt hr, Int.mul_one]
    rcases rat_tri p q with h | h | h
    · rw [cmpQ_lt h, cmpQ_lt (Rat.mul_lt_mul_of_pos_right h hr)]
    · subst h; rw [cmpQ_eq rfl, cmpQ_eq rfl]
    · rw [cmpQ_gt h, cmpQ_gt (Rat.mul_lt_mul_of_pos_right h hr)]
theorem cmpQ_top (q : Rat) : cmpQ q 0 = cmpZ q.num 0 := by
  show cmpZ (q.num * ((0 : Rat).den : Int)) ((0 : Rat).num * (q.den : Int)) = _
  have e1 : (0 : Rat).den = 1 := rfl
  have e2 : (0 : Rat).num = 0 := rfl
  rw [e1, e2]
  simp

/-- A number's top has less than k limbs and one, its bottom l. -/
def Bd (q : Rat) (k l : Nat) : Prop := q.num.natAbs < 4294967296 ^ k ∧ q.den < 4294967296 ^ l
theorem Bd.mono {q : Rat} {k l k' l' : Nat} (h : Bd q k l) (hk : k ≤ k') (hl : l ≤ l') : Bd q k' l' :=
  ⟨Nat.lt_of_lt_of_le h.1 (Nat.pow_le_pow_right (by decide) hk), Nat.lt_of_lt_of_le h.2 (Nat.pow_le_pow_right (by decide) hl)⟩
theorem Bd.fits {q : Rat} {k l : Nat} (h : Bd q k l) (hk : k ≤ 64) (hl : l ≤ 64) : fitsQ q = true := by
  have h2 := h.mono hk hl
  unfold fitsQ
  rw [decide_eq_true h2.1, decide_eq_true h2.2]; rfl
theorem bd_mk {x : Int} {b k l : Nat} (hb : b ≠ 0) (hx : x.natAbs < 4294967296 ^ k) (hl : b < 4294967296 ^ l) : Bd (mkRat x b) k l := by
  refine ⟨?_, ?_⟩
  · rw [(mk_num hb).1]; exact Nat.lt_of_le_of_lt (Nat.div_le_self _ _) hx
  · rw [mk_den hb]; exact Nat.lt_of_le_of_lt (Nat.div_le_self _ _) hl
theorem Bd.mul {p q : Rat} {a b c d : Nat} (h : Bd p a b) (k : Bd q c d) : Bd (p * q) (a + c) (b + d) := by
  rw [mul_mk]
  refine bd_mk (Nat.mul_ne_zero p.den_nz q.den_nz) ?_ ?_
  · rw [Int.natAbs_mul, Nat.pow_add]; exact Nat.mul_lt_mul'' h.1 k.1
  · rw [Nat.pow_add]; exact Nat.mul_lt_mul'' h.2 k.2
theorem Bd.add {p q : Rat} {a b c d e : Nat} (h : Bd p a b) (k : Bd q c d) (h1 : a + d ≤ e) (h2 : c + b ≤ e) : Bd (p + q) (e + 1) (b + d) := by
  rw [add_mk]
  refine bd_mk (Nat.mul_ne_zero p.den_nz q.den_nz) ?_ ?_
  · have l1 : (p.num * (q.den : Int)).natAbs < 4294967296 ^ e := by
      rw [Int.natAbs_mul, Int.natAbs_natCast]
      have := Nat.mul_lt_mul'' h.1 k.2
      rw [← Nat.pow_add] at this
      exact Nat.lt_of_lt_of_le this (Nat.pow_le_pow_right (by decide) h1)
    have l2 : (q.num * (p.den : Int)).natAbs < 4294967296 ^ e := by
      rw [Int.natAbs_mul, Int.natAbs_natCast]
      have := Nat.mul_lt_mul'' k.1 h.2
      rw [← Nat.pow_add] at this
      exact Nat.lt_of_lt_of_le this (Nat.pow_le_pow_right (by decide) h2)
    exact abs_add_lt l1 l2
  · rw [Nat.pow_add]; exact Nat.mul_lt_mul'' h.2 k.2
theorem Bd.neg {q : Rat} {k l : Nat} (h : Bd q k l) : Bd (-q) k l := ⟨by rw [(neg_top q).1, Int.natAbs_neg]; exact h.1, h.2⟩

/-- Half of the sum lies between. -/
theorem half_lt {p q : Rat} (h : p < q) : p < (p + q) / 2 ∧ (p + q) / 2 < q := by
  have h2 : (0 : Rat) < 2 := by decide
  have e2 : (2 : Rat) ≠ 0 := by decide
  have d2 : ∀ x : Rat, x * 2 = x + x := fun x => by
    have : (2 : Rat) = 1 + 1 := by decide +kernel
    rw [this, Rat.mul_add, Rat.mul_one]
  constructor
  · rw [← Rat.mul_lt_mul_right h2, Rat.div_mul_cancel e2, d2, Rat.add_comm p q]
    exact Rat.add_lt_add_right.2 h
  · rw [← Rat.mul_lt_mul_right h2, Rat.div_mul_cancel e2, d2]
    exact Rat.add_lt_add_right.2 h
theorem half_self (p : Rat) : (p + p) / 2 = p := by
  have e2 : (2 : Rat) ≠ 0 := by decide
  have : p + p = p * 2 := by
    have e : (2 : Rat) = 1 + 1 := by decide +kernel
    rw [e, Rat.mul_add, Rat.mul_one]
  rw [this, Rat.mul_div_cancel e2]
theorem cmpQ_half (p q : Rat) : cmpQ p ((p + q) / 2) = cmpQ p q ∧ cmpQ ((p + q) / 2) q = cmpQ p q := by
  rcases rat_tri p q with h | h | h
  · rw [cmpQ_lt h, cmpQ_lt (half_lt h).1, cmpQ_lt (half_lt h).2]; exact ⟨rfl, rfl⟩
  · subst h; rw [half_self, cmpQ_eq rfl]; exact ⟨rfl, rfl⟩
  · have h2 := half_lt h
    rw [Rat.add_comm q p] at h2
    rw [cmpQ_gt h, cmpQ_gt h2.2, cmpQ_gt h2.1]; exact ⟨rfl, rfl⟩

end Go.Proofs.Ytmifgblbicnimaa

/- Blocks of three and of four cells: what they hold, what stays where they are filled. No condition. -/
namespace Go.Proofs.Ytmifgblbicnimaa
open Go.RowKit Limb
set_option linter.unusedVariables false

/-- A block of three cells. -/
def Row3 (w : World) (g : Nat) (T : TypeId) (a b c : Value) : Prop := w.heap[g]? = some (.cells #[a, b, c] T (0, 0))
section
variable {w w' : World} {g : Nat} {T : TypeId} {a b c : Value}
theorem Row3.lt (h : Row3 w g T a b c) : g < w.heap.size := by
  rcases Nat.lt_or_ge g w.heap.size with hlt | hge
  · exact hlt
  · unfold Row3 at h; rw [Array.getElem?_eq_none hge] at h; cases h
theorem Row3.below (h : Row3 w g T a b c) (hb : Below w.heap.size w w') : Row3 w' g T a b c := (hb.block g h.lt).trans h
theorem Row3.c0 (h : Row3 w g T a b c) : w.cell? ⟨g, 0, none⟩ = some a := by unfold Row3 at h; simp [World.cell?, h]
theorem Row3.c1 (h : Row3 w g T a b c) : w.cell? ⟨g, 1, none⟩ = some b := by unfold Row3 at h; simp [World.cell?, h]
theorem Row3.c2 (h : Row3 w g T a b c) : w.cell? ⟨g, 2, none⟩ = some c := by unfold Row3 at h; simp [World.cell?, h]
theorem Row3.free (h : Row3 w g T a b c) (k : Nat) : w.frozen? ⟨g, k, none⟩ = false := by unfold Row3 at h; simp [World.frozen?, h]
theorem Row3.fill (h : Row3 w g T a b c) (x y z : Value) : Row3 (((w.setCell ⟨g, 0, none⟩ x).setCell ⟨g, 1, none⟩ y).setCell ⟨g, 2, none⟩ z) g T x y z := by
  unfold Row3 at h ⊢
  simp [World.setCell, Array.getElem?_modify, h]
theorem row3_new (w : World) (T : TypeId) (a b c : Value) : Row3 (w.alloc (.cells #[a, b, c] T)) w.heap.size T a b c := heap_alloc_new _ _
theorem below_fill3' (h : Below w.heap.size w w') (hg : w.heap.size ≤ g) (x y z : Value) : Below w.heap.size w (((w'.setCell ⟨g, 0, none⟩ x).setCell ⟨g, 1, none⟩ y).setCell ⟨g, 2, none⟩ z) :=
  ((h.setCell (by exact hg) _).setCell (by exact hg) _).setCell (by exact hg) _
end
/-- A block of four cells. -/
def Row4 (w : World) (g : Nat) (T : TypeId) (a b c d : Value) : Prop := w.heap[g]? = some (.cells #[a, b, c, d] T (0, 0))
section
variable {w w' : World} {g : Nat} {T : TypeId} {a b c d : Value}
theorem Row4.lt (h : Row4 w g T a b c d) : g < w.heap.size := by
  rcases Nat.lt_or_ge g w.heap.size with hlt | hge
  · exact hlt
  · unfold Row4 at h; rw [Array.getElem?_eq_none hge] at h; cases h
theorem Row4.below (h : Row4 w g T a b c d) (hb : Below w.heap.size w w') : Row4 w' g T a b c d := (hb.block g h.lt).trans h
theorem Row4.c0 (h : Row4 w g T a b c d) : w.cell? ⟨g, 0, none⟩ = some a := by unfold Row4 at h; simp [World.cell?, h]
theorem Row4.c1 (h : Row4 w g T a b c d) : w.cell? ⟨g, 1, none⟩ = some b := by unfold Row4 at h; simp [World.cell?, h]
theorem Row4.c2 (h : Row4 w g T a b c d) : w.cell? ⟨g, 2, none⟩ = some c := by unfold Row4 at h; simp [World.cell?, h]
theorem Row4.c3 (h : Row4 w g T a b c d) : w.cell? ⟨g, 3, none⟩ = some d := by unfold Row4 at h; simp [World.cell?, h]
theorem Row4.free (h : Row4 w g T a b c d) (k : Nat) : w.frozen? ⟨g, k, none⟩ = false := by unfold Row4 at h; simp [World.frozen?, h]
theorem Row4.fill (h : Row4 w g T a b c d) (x y z v : Value) : Row4 ((((w.setCell ⟨g, 0, none⟩ x).setCell ⟨g, 1, none⟩ y).setCell ⟨g, 2, none⟩ z).setCell ⟨g, 3, none⟩ v) g T x y z v := by
  unfold Row4 at h ⊢
  simp [World.setCell, Array.getElem?_modify, h]
theorem row4_new (w : World) (T : TypeId) (a b c d : Value) : Row4 (w.alloc (.cells #[a, b, c, d] T)) w.heap.size T a b c d := heap_alloc_new _ _
theorem below_fill4 (h : Below w.heap.size w w') (hg : w.heap.size ≤ g) (x y z v : Value) : Below w.heap.size w ((((w'.setCell ⟨g, 0, none⟩ x).setCell ⟨g, 1, none⟩ y).setCell ⟨g, 2, none⟩ z).setCell ⟨g, 3, none⟩ v) :=
  (((h.setCell (by exact hg) _).setCell (by exact hg) _).setCell (by exact hg) _).setCell (by exact hg) _
end

/-- A block in which no limb lies. -/
def NoLimb (w : World) (g : Nat) : Prop := ∀ o v, w.cell? ⟨g, o, none⟩ ≠ some (.int .u32 v)
theorem apart_of {w : World} {A : Option Addr} {n c : Nat} {xs : List Nat} {a L g : Nat} (h : NN w A n c xs a L) (hg : NoLimb w g) : Apart g A n := by
  intro hn b o s e
  obtain ⟨b', o', e', hlt, hc⟩ := h.isN.2.2 hn
  rw [e] at e'
  injection e' with e'
  injection e' with e1 e2
  rintro rfl
  subst e1
  exact hg _ _ (hc 0 hn)
theorem Row3.noLimb {w : World} {g : Nat} {T : TypeId} {a b c : Value} (h : Row3 w g T a b c) (ha : ∀ v, a ≠ .int .u32 v) (hb : ∀ v, b ≠ .int .u32 v) (hc : ∀ v, c ≠ .int .u32 v) : NoLimb w g := by
  intro o v e
  unfold Row3 at h
  match o, e with
  | 0, e => rw [show w.cell? ⟨g, 0, none⟩ = some a by simp [World.cell?, h]] at e; exact ha v (Option.some.inj e)
  | 1, e => rw [show w.cell? ⟨g, 1, none⟩ = some b by simp [World.cell?, h]] at e; exact hb v (Option.some.inj e)
  | 2, e => rw [show w.cell? ⟨g, 2, none⟩ = some c by simp [World.cell?, h]] at e; exact hc v (Option.some.inj e)
  | o + 3, e => simp [World.cell?, h] at e
theorem Row4.noLimb {w : World} {g : Nat} {T : TypeId} {a b c d : Value} (h : Row4 w g T a b c d) (ha : ∀ v, a ≠ .int .u32 v) (hb : ∀ v, b ≠ .int .u32 v) (hc : ∀ v, c ≠ .int .u32 v) (hd : ∀ v, d ≠ .int .u32 v) : NoLimb w g := by
  intro o v e
  unfold Row4 at h
  match o, e with
  | 0, e => rw [show w.cell? ⟨g, 0, none⟩ = some a by simp [World.cell?, h]] at e; exact ha v (Option.some.inj e)
  | 1, e => rw [show w.cell? ⟨g, 1, none⟩ = some b by simp [World.cell?, h]] at e; exact hb v (Option.some.inj e)
  | 2, e => rw [show w.cell? ⟨g, 2, none⟩ = some c by simp [World.cell?, h]] at e; exact hc v (Option.some.inj e)
  | 3, e => rw [show w.cell? ⟨g, 3, none⟩ = some d by simp [World.cell?, h]] at e; exact hd v (Option.some.inj e)
  | o + 4, e => simp [World.cell?, h] at e
theorem NN.fillR3 {w : World} {A : Option Addr} {n c : Nat} {xs : List Nat} {a L g : Nat} (h : NN w A n c xs a L) (hg : NoLimb w g) (x y z : Value) : NN (((w.setCell ⟨g, 0, none⟩ x).setCell ⟨g, 1, none⟩ y).setCell ⟨g, 2, none⟩ z) A n c xs a L :=
  ((h.elsewhere (apart_of h hg) 0 x).elsewhere (apart_of h hg) 1 y).elsewhere (apart_of h hg) 2 z
theorem NN.fillR4 {w : World} {A : Option Addr} {n c : Nat} {xs : List Nat} {a L g : Nat} (h : NN w A n c xs a L) (hg : NoLimb w g) (x y z v : Value) : NN ((((w.setCell ⟨g, 0, none⟩ x).setCell ⟨g, 1, none⟩ y).setCell ⟨g, 2, none⟩ z).setCell ⟨g, 3, none⟩ v) A n c xs a L :=
  (h.fillR3 hg x y z).elsewhere (apart_of h hg) 3 v
theorem ZZ.fillR3 {w : World} {s : Bool} {A : Option Addr} {n c : Nat} {xs : List Nat} {z : Int} {L g : Nat} (h : ZZ w s A n c xs z L) (hg : NoLimb w g) (x y v : Value) : ZZ (((w.setCell ⟨g, 0, none⟩ x).setCell ⟨g, 1, none⟩ y).setCell ⟨g, 2, none⟩ v) s A n c xs z L := ⟨h.nn.fillR3 hg x y v, h.sgn⟩
theorem ZZ.fillR4 {w : World} {s : Bool} {A : Option Addr} {n c : Nat} {xs : List Nat} {z : Int} {L g : Nat} (h : ZZ w s A n c xs z L) (hg : NoLimb w g) (x y v u : Value) : ZZ ((((w.setCell ⟨g, 0, none⟩ x).setCell ⟨g, 1, none⟩ y).setCell ⟨g, 2, none⟩ v).setCell ⟨g, 3, none⟩ u) s A n c xs z L := ⟨h.nn.fillR4 hg x y v u, h.sgn⟩

end Go.Proofs.Ytmifgblbicnimaa

/- Mathematics of what calls on rational numbers tell: a number or none, and the error beside it. No condition. -/
namespace Go.Proofs.Ytmifgblbicnimaa
open Go.RowKit Limb
set_option linter.unusedVariables false

theorem whole_fits {v : Int} (h0 : -9223372036854775808 ≤ v) (h1 : v ≤ 9223372036854775807) : fitsQ (v : Rat) = true := by
  simp only [fitsQ, Bool.and_eq_true, decide_eq_true_eq]
  have e : (4294967296 : Nat) ^ 2 ≤ 4294967296 ^ 64 := Nat.pow_le_pow_right (by decide) (by decide)
  have e1 : ((v : Rat)).num = v := rfl
  have e2 : ((v : Rat)).den = 1 := rfl
  rw [e1, e2]
  omega
theorem neg_fits {q : Rat} (h : fitsQ q = true) : fitsQ (-q) = true := by
  unfold fitsQ at h ⊢
  rw [(neg_top q).1, (neg_top q).2, Int.natAbs_neg]; exact h
/-- What a call on two numbers tells: of what may not be nothing, and the error 1. -/
def opR (f : Rat → Rat → Option Rat × Int) : Option Rat → Option Rat → Option Rat × Int
  | some p, some q => f p q
  | _, _ => (none, 1)
def limR (q : Rat) : Option Rat × Int := (limQ q, limE q)
def addR : Option Rat → Option Rat → Option Rat × Int := opR fun p q => limR (p + q)
def subR : Option Rat → Option Rat → Option Rat × Int := opR fun p q => limR (p - q)
def mulR : Option Rat → Option Rat → Option Rat × Int := opR fun p q => limR (p * q)
def divR : Option Rat → Option Rat → Option Rat × Int := opR fun p q => if q.num = 0 then (none, 3) else limR (p / q)
def ofR (x : Int) (b : Nat) : Option Rat × Int := if b = 0 then (none, 3) else limR (mkRat x b)
def cmpR : Option Rat → Option Rat → Int
  | some p, some q => cmpQ p q
  | _, _ => 0
def sameR (o o' : Option Rat) : Bool := o.isSome && decide (o = o')
theorem limR_yes {q : Rat} (h : fitsQ q = true) : limR q = (some q, 0) := by unfold limR; rw [limQ_yes h, limE_yes h]
theorem limR_fits {q : Rat} {k l : Nat} (h : Bd q k l) (hk : k ≤ 64) (hl : l ≤ 64) : limR q = (some q, 0) := limR_yes (h.fits hk hl)

theorem sub_mk (p q : Rat) : p - q = mkRat (p.num * (q.den : Int) + -(q.num * (p.den : Int))) (p.den * q.den) := by
  rw [Rat.sub_eq_add_neg, add_mk, (neg_top q).1, (neg_top q).2, Int.neg_mul]
theorem den_pos (q : Rat) : (0 : Int) < (q.den : Int) := by have := q.den_nz; omega
theorem sg_mul_den (z : Int) (q : Rat) : sg (z * (q.den : Int)) = sg z := by
  have h := den_pos q
  rcases Int.lt_trichotomy z 0 with h1 | h1 | h1
  · rw [sg_neg h1, sg_neg (Int.mul_neg_of_neg_of_pos h1 h)]
  · subst h1; rw [Int.zero_mul]
  · rw [sg_pos (Int.le_of_lt h1), sg_pos (Int.le_of_lt (Int.mul_pos h1 h))]
theorem zz_turn {s : Bool} {a : Nat} {x : Int} (h : zOf s a = x) : zOf (!s) a = -x := by
  subst h; cases s <;> simp [zOf]
theorem zz_sg (x : Int) : zOf (sg x) x.natAbs = x := by
  unfold zOf sg
  by_cases h : x < 0
  · simp [h]; omega
  · simp [h]; omega
/-- A quotient out of both products over the cross. -/
theorem div_cross {p q : Rat} (h : q.num ≠ 0) : mkRat (zOf (sg (p.num * (q.den : Int)) != sg (q.num * (p.den : Int))) (p.num * (q.den : Int)).natAbs) (q.num * (p.den : Int)).natAbs = p / q := by
  rw [div_mk h, sg_mul_den q.num p]
  congr 1
  · cases hs : sg q.num with
    | false => rw [Bool.bne_false, zz_sg]; unfold zOf; simp
    | true => rw [Bool.bne_true, zz_turn (zz_sg _)]; unfold zOf; simp [Int.mul_neg]
  · rw [Int.natAbs_mul, Int.natAbs_natCast, Nat.mul_comm]
theorem cross_zero {p q : Rat} : (q.num * (p.den : Int)).natAbs = 0 ↔ q.num = 0 := by
  rw [Int.natAbs_eq_zero, Int.mul_eq_zero]
  have := den_pos p
  constructor
  · rintro (h | h)
    · exact h
    · omega
  · exact .inl
/-- A top without the divisors in common: its sign stays. -/
theorem zz_div {s : Bool} {x : Int} {b : Nat} (hs : zOf s x.natAbs = x) (hb : b ≠ 0) : zOf s (x.natAbs / Nat.gcd x.natAbs b) = (mkRat x b).num := by
  obtain ⟨m1, m2⟩ := mk_num (x := x) hb
  rw [← m1]
  by_cases h0 : x = 0
  · have e : (mkRat x b).num.natAbs = 0 := by rw [m1, h0]; simp
    rw [e]
    have : (mkRat x b).num = 0 := by omega
    rw [this]; unfold zOf; split <;> rfl
  · have e : s = sg x := by
      cases s with
      | true => symm; apply sg_neg; unfold zOf at hs; rw [if_pos rfl] at hs; omega
      | false => symm; apply sg_pos; unfold zOf at hs; rw [if_neg (by decide)] at hs; omega
    rw [e, ← m2, zz_sg]
theorem ZZ.zo {w : World} {s : Bool} {A : Option Addr} {n c : Nat} {xs : List Nat} {x : Int} {L : Nat} (h : ZZ w s A n c xs x L) : zOf s x.natAbs = x := h.sgn.symm
theorem zz_pos {w : World} {B : Option Addr} {m d : Nat} {ys : List Nat} {b L : Nat} (h : NN w B m d ys b L) : ZZ w false B m d ys (b : Int) L := ⟨by rw [Int.natAbs_natCast]; exact h, by simp⟩
theorem zz_none (w : World) : ZZ w false none 0 0 [] 0 0 := ⟨⟨IsN.nil _ _, rfl, Nat.le_refl _, Nat.zero_le _⟩, rfl⟩

theorem len_fits (a : Nat) : (limbs a).length ≤ 64 ↔ a < 4294967296 ^ 64 := by
  constructor
  · intro h
    rcases Nat.lt_or_ge a (4294967296 ^ 64) with h2 | h2
    · exact h2
    · have := lt_length_limbs h2; omega
  · exact fun h => length_limbs_le h
theorem fits_len (q : Rat) {n m : Nat} (hn : (limbs q.num.natAbs).length = n) (hm : (limbs q.den).length = m) : (decide (n ≤ 64) && decide (m ≤ 64)) = fitsQ q := by
  subst hn; subst hm
  unfold fitsQ
  rw [decide_eq_decide.2 (len_fits q.num.natAbs), decide_eq_decide.2 (len_fits q.den)]
theorem ofR_zero {x : Int} {b : Nat} {r : Option Rat} {e : Int} (hb : b = 0) (h : ofR x b = (r, e)) : r = none ∧ e = 3 := by
  unfold ofR at h; rw [if_pos hb] at h; cases h; exact ⟨rfl, rfl⟩
theorem ofR_yes {x : Int} {b : Nat} {r : Option Rat} {e : Int} (hb : b ≠ 0) (h : ofR x b = (r, e)) : limR (mkRat x b) = (r, e) := by
  unfold ofR at h; rwa [if_neg hb] at h
theorem limR_no {q : Rat} (h : fitsQ q = false) : limR q = (none, 2) := by unfold limR; rw [limQ_no h, limE_no h]

/-- Two that read as numbers are one just if they stand there alike. -/
theorem same_read {s s' : Bool} {xs ys xs' ys' : List Nat} {q : Rat} {o' : Option Rat} (h : readQ s xs ys = some q) (h' : readQ s' xs' ys' = o') : (decide (s = s') && decide (xs = xs') && decide (ys = ys')) = decide (some q = o') := by
  rw [Bool.eq_iff_iff]
  simp only [Bool.and_eq_true, decide_eq_true_eq]
  constructor
  · rintro ⟨⟨rfl, rfl⟩, rfl⟩; exact h.symm.trans h'
  · intro e
    rw [← e] at h'
    have g : goodV s xs ys = true := by
      cases hg : goodV s xs ys with
      | true => rfl
      | false => rw [readQ_no hg] at h; cases h
    have g' : goodV s' xs' ys' = true := by
      cases hg : goodV s' xs' ys' with
      | true => rfl
      | false => rw [readQ_no hg] at h'; cases h'
    obtain ⟨q1, e1, a1, a2, a3, _⟩ := readQ_yes g
    obtain ⟨q2, e2, b1, b2, b3, _⟩ := readQ_yes g'
    rw [h] at e1
    rw [h'] at e2
    cases e1
    cases e2
    exact ⟨⟨a1.trans b1.symm, a2.trans b2.symm⟩, a3.trans b3.symm⟩
/-- A block made behind the world w0. -/
def Over (w0 : World) (q : Nat) (w : World) : Prop := w0.heap.size ≤ q
theorem Over.below {w0 w w' : World} {q : Nat} (h : Over w0 q w) (hb : Below w.heap.size w w') : Over w0 q w' := h
theorem ofR_cross {p q : Rat} : ofR (zOf (sg (p.num * (q.den : Int)) != sg (q.num * (p.den : Int))) (p.num * (q.den : Int)).natAbs) (q.num * (p.den : Int)).natAbs = divR (some p) (some q) := by
  show _ = if q.num = 0 then ((none : Option Rat), (3 : Int)) else limR (p / q)
  unfold ofR
  by_cases h : q.num = 0
  · rw [if_pos (cross_zero.2 h), if_pos h]
  · rw [if_neg (mt cross_zero.1 h), if_neg h, div_cross h]
theorem QQ.fillR3 {w : World} {s : Bool} {A : Option Addr} {n c : Nat} {xs : List Nat} {B : Option Addr} {m d : Nat} {ys : List Nat} {o : Option Rat} {L g : Nat} (h : QQ w s A n c xs B m d ys o L) (hg : NoLimb w g) (x y z : Value) :
    QQ (((w.setCell ⟨g, 0, Option.none⟩ x).setCell ⟨g, 1, Option.none⟩ y).setCell ⟨g, 2, Option.none⟩ z) s A n c xs B m d ys o L := ⟨h.top.fillR3 hg x y z, h.bot.fillR3 hg x y z, h.rd⟩
theorem QQ.fillR4 {w : World} {s : Bool} {A : Option Addr} {n c : Nat} {xs : List Nat} {B : Option Addr} {m d : Nat} {ys : List Nat} {o : Option Rat} {L g : Nat} (h : QQ w s A n c xs B m d ys o L) (hg : NoLimb w g) (x y z v : Value) :
    QQ ((((w.setCell ⟨g, 0, Option.none⟩ x).setCell ⟨g, 1, Option.none⟩ y).setCell ⟨g, 2, Option.none⟩ z).setCell ⟨g, 3, Option.none⟩ v) s A n c xs B m d ys o L := ⟨h.top.fillR4 hg x y z v, h.bot.fillR4 hg x y z v, h.rd⟩

end Go.Proofs.Ytmifgblbicnimaa

/- Mathematics of the statements of stage 7: which sums, products and quotients have room, and what they are. No condition. -/
namespace Go.Proofs.Ytmifgblbicnimaa
open Go.RowKit Limb
set_option linter.unusedVariables false

theorem QQ.of {w : World} {s : Bool} {A : Option Addr} {n c : Nat} {xs : List Nat} {B : Option Addr} {m d : Nat} {ys : List Nat} {K : Nat} (i : IsN w A n xs) (hc : n ≤ c) (j : IsN w B m ys) (kc : m ≤ d) (h : n ≤ K) (h' : m ≤ K) : QQ w s A n c xs B m d ys (readQ s xs ys) K :=
  ⟨ZZ.of ⟨i, rfl, hc, h⟩, ⟨j, rfl, kc, h'⟩, rfl⟩
/-- An argument that is a number stands there as what is told. -/
theorem qq_told {w : World} {s : Bool} {A : Option Addr} {n c : Nat} {xs : List Nat} {B : Option Addr} {m d : Nat} {ys : List Nat} {q : Rat} {L : Nat} (h : QQ w s A n c xs B m d ys (some q) L) :
    s = sg (oTop (some q)) ∧ xs = limbs (oTop (some q)).natAbs ∧ ys = limbs (oBot (some q)) ∧ QQ w s A n c xs B m d ys (some q) 64 ∧ n ≤ 64 ∧ m ≤ 64 ∧ Bd q n m := by
  obtain ⟨h1, h2, h3, h4, h5, h6, h7⟩ := h.some
  have hn := h5.nn.isN.len
  have hm := h6.isN.len
  obtain ⟨_, _, _, _, l1, l2, _⟩ := goodV_iff.1 h7
  have v1 := val_lt h5.nn.isN.small
  have v2 := val_lt h6.isN.small
  rw [h5.nn.val, hn] at v1
  rw [h6.val, hm] at v2
  exact ⟨h1, h2, h3, ⟨h.top.nn.short (by omega) |> fun t => ⟨t, h.top.sgn⟩, h.bot.short (by omega), h.rd⟩, by omega, by omega, v1, v2⟩

theorem add_is {p q z : Rat} {k l : Nat} (e : p + q = z) (h : Bd z k l) (hk : k ≤ 64) (hl : l ≤ 64) : addR (some p) (some q) = (some z, 0) := by
  show limR (p + q) = _
  rw [e]; exact limR_fits h hk hl
theorem sub_is {p q z : Rat} {k l : Nat} (e : p - q = z) (h : Bd z k l) (hk : k ≤ 64) (hl : l ≤ 64) : subR (some p) (some q) = (some z, 0) := by
  show limR (p - q) = _
  rw [e]; exact limR_fits h hk hl
theorem mul_is {p q z : Rat} {k l : Nat} (e : p * q = z) (h : Bd z k l) (hk : k ≤ 64) (hl : l ≤ 64) : mulR (some p) (some q) = (some z, 0) := by
  show limR (p * q) = _
  rw [e]; exact limR_fits h hk hl
theorem div_is {p q z : Rat} {k l : Nat} (h0 : q.num ≠ 0) (e : p / q = z) (h : Bd z k l) (hk : k ≤ 64) (hl : l ≤ 64) : divR (some p) (some q) = (some z, 0) := by
  show (if q.num = 0 then ((none : Option Rat), (3 : Int)) else limR (p / q)) = _
  rw [if_neg h0, e]; exact limR_fits h hk hl
theorem div_no {p q : Rat} (h0 : q.num = 0) : divR (some p) (some q) = (none, 3) := by
  show (if q.num = 0 then ((none : Option Rat), (3 : Int)) else limR (p / q)) = _
  rw [if_pos h0]
theorem add_back (p q : Rat) : p + q - q = p := by rw [Rat.sub_eq_add_neg, Rat.add_assoc, Rat.add_neg_cancel, Rat.add_zero]
theorem num_ne {q : Rat} (h : q.num ≠ 0) : q ≠ 0 := fun e => h (by rw [e]; rfl)

theorem field_facts {a b c : Rat} {na ma nb mb nc mc : Nat} (ha : Bd a na ma) (hb : Bd b nb mb) (hc : Bd c nc mc) (hT : na + nb + nc + ma + mb + mc ≤ 40) :
    ∃ s u v p x y z : Rat, addR (some a) (some b) = (some s, 0) ∧ addR (some b) (some a) = (some s, 0) ∧ addR (some s) (some c) = (some u, 0) ∧ addR (some b) (some c) = (some v, 0) ∧ addR (some a) (some v) = (some u, 0) ∧
      mulR (some a) (some b) = (some p, 0) ∧ mulR (some b) (some a) = (some p, 0) ∧ mulR (some s) (some c) = (some x, 0) ∧ mulR (some a) (some c) = (some y, 0) ∧ mulR (some b) (some c) = (some z, 0) ∧ addR (some y) (some z) = (some x, 0) ∧
      subR (some s) (some b) = (some a, 0) ∧ (b.num = 0 → divR (some p) (some b) = (none, 3)) ∧ (b.num ≠ 0 → divR (some p) (some b) = (some a, 0)) := by
  have hs : Bd (a + b) (na + mb + nb + ma + 1) (ma + mb) := ha.add hb (by omega) (by omega)
  have hu : Bd (a + b + c) (na + mb + nb + ma + 1 + mc + nc + 1) (ma + mb + mc) := hs.add hc (by omega) (by omega)
  have hv : Bd (b + c) (nb + mc + nc + mb + 1) (mb + mc) := hb.add hc (by omega) (by omega)
  have hp := ha.mul hb
  have hx := hs.mul hc
  have hy := ha.mul hc
  have hz := hb.mul hc
  refine ⟨a + b, a + b + c, b + c, a * b, (a + b) * c, a * c, b * c, add_is rfl hs (by omega) (by omega), add_is (Rat.add_comm _ _) hs (by omega) (by omega), add_is rfl hu (by omega) (by omega), add_is rfl hv (by omega) (by omega), add_is (Rat.add_assoc _ _ _).symm hu (by omega) (by omega),
    mul_is rfl hp (by omega) (by omega), mul_is (Rat.mul_comm _ _) hp (by omega) (by omega), mul_is rfl hx (by omega) (by omega), mul_is rfl hy (by omega) (by omega), mul_is rfl hz (by omega) (by omega), add_is (Rat.add_mul _ _ _).symm hx (by omega) (by omega),
    sub_is (add_back _ _) ha (by omega) (by omega), fun h => div_no h, fun h => div_is h (Rat.mul_div_cancel (num_ne h)) ha (by omega) (by omega)⟩

theorem sign_wrap {x : Int} (h : -1 ≤ x ∧ x ≤ 1) : IntKind.i64.wrap x = x := by rw [IntKind.wrap_i64]; omega
theorem cmpR_some (p q : Rat) : cmpR (some p) (some q) = cmpQ p q := rfl
theorem sign_num {q : Rat} : (cmpQ q 0 == 0) = decide (q.num = 0) := by
  rw [Bool.eq_iff_iff, beq_iff_eq, decide_eq_true_eq, cmpQ_zero]
  exact ⟨fun h => by rw [h]; rfl, fun h => Rat.num_eq_zero.1 h⟩

theorem order_facts {a b c : Rat} {na ma nb mb nc mc : Nat} (ha : Bd a na ma) (hb : Bd b nb mb) (hc : Bd c nc mc) (hT : na + nb + nc + ma + mb + mc ≤ 40) :
    ∃ (s t p q d : Rat) (x y u v : Int), addR (some a) (some c) = (some s, 0) ∧ addR (some b) (some c) = (some t, 0) ∧ mulR (some a) (some c) = (some p, 0) ∧ mulR (some b) (some c) = (some q, 0) ∧ subR (some a) (some b) = (some d, 0) ∧
      cmpR (some a) (some b) = x ∧ cmpR (some b) (some a) = y ∧ cmpR (some s) (some t) = x ∧ cmpR (some c) (some 0) = u ∧ cmpR (some p) (some q) = v ∧ cmpR (some d) (some 0) = x ∧ cmpR (some (-a)) (some (-b)) = y ∧
      IntKind.i64.wrap (-y) = x ∧ IntKind.i64.wrap (-x) = y ∧ IntKind.i64.wrap (x * u) = v ∧ sameR (some a) (some b) = (x == 0) ∧ decide (some a = some b) = (x == 0) := by
  have hs : Bd (a + c) (na + mc + nc + ma + 1) (ma + mc) := ha.add hc (by omega) (by omega)
  have ht : Bd (b + c) (nb + mc + nc + mb + 1) (mb + mc) := hb.add hc (by omega) (by omega)
  have hd : Bd (a - b) (na + mb + nb + ma + 1) (ma + mb) := by rw [Rat.sub_eq_add_neg]; exact ha.add hb.neg (by omega) (by omega)
  have e1 := cmpQ_swap a b
  have b1 := cmpQ_bounds a b
  have b2 := cmpQ_bounds c 0
  have b3 := cmpQ_bounds (a * c) (b * c)
  have e2 := cmpQ_mul a b c
  refine ⟨a + c, b + c, a * c, b * c, a - b, cmpQ a b, cmpQ b a, cmpQ c 0, cmpQ (a * c) (b * c), add_is rfl hs (by omega) (by omega), add_is rfl ht (by omega) (by omega), mul_is rfl (ha.mul hc) (by omega) (by omega), mul_is rfl (hb.mul hc) (by omega) (by omega), sub_is rfl hd (by omega) (by omega),
    rfl, rfl, cmpQ_add a b c, rfl, rfl, cmpQ_sub a b, ?_, ?_, ?_, ?_, ?_, ?_⟩
  · rw [cmpR_some, cmpQ_neg, e1]
  · rw [e1, Int.neg_neg]; exact sign_wrap b1
  · rw [← e1]; exact sign_wrap (cmpQ_bounds b a)
  · rw [← e2]; exact sign_wrap b3
  · show decide (some a = some b) = _
    rw [Bool.eq_iff_iff, beq_iff_eq, decide_eq_true_eq, cmpQ_zero]; simp
  · rw [Bool.eq_iff_iff, beq_iff_eq, decide_eq_true_eq, cmpQ_zero]; simp

theorem between_facts {a b : Rat} {na ma nb mb : Nat} (ha : Bd a na ma) (hb : Bd b nb mb) (hT : na + nb + ma + mb ≤ 40) :
    ∃ (s h t : Rat) (x : Int), ((2 : Int) : Rat) = t ∧ addR (some a) (some b) = (some s, 0) ∧ divR (some s) (some t) = (some h, 0) ∧ cmpR (some a) (some b) = x ∧ cmpR (some a) (some h) = x ∧ cmpR (some h) (some b) = x := by
  have hs : Bd (a + b) (na + mb + nb + ma + 1) (ma + mb) := ha.add hb (by omega) (by omega)
  have h2 : Bd ((1 : Rat) / 2) 1 1 := by unfold Bd; decide +kernel
  have e : (a + b) / 2 = (a + b) * (1 / 2) := by rw [Rat.div_def, Rat.div_def, Rat.one_mul]
  have hh := hs.mul h2
  rw [← e] at hh
  have e2 : ((2 : Int) : Rat) = 2 := rfl
  obtain ⟨c1, c2⟩ := cmpQ_half a b
  exact ⟨a + b, (a + b) / 2, 2, cmpQ a b, e2, add_is rfl hs (by omega) (by omega), div_is (by decide +kernel) rfl hh (by omega) (by omega), rfl, c1, c2⟩

theorem Row3.set {w : World} {g g' : Nat} {T : TypeId} {a b c : Value} (h : Row3 w g' T a b c) (hne : g ≠ g') (o : Nat) (v : Value) : Row3 (w.setCell ⟨g, o, Option.none⟩ v) g' T a b c := by
  unfold Row3 at h ⊢
  simp only [World.setCell, Array.getElem?_modify]
  rw [if_neg hne]; exact h
theorem Row4.set {w : World} {g g' : Nat} {T : TypeId} {a b c d : Value} (h : Row4 w g' T a b c d) (hne : g ≠ g') (o : Nat) (v : Value) : Row4 (w.setCell ⟨g, o, Option.none⟩ v) g' T a b c d := by
  unfold Row4 at h ⊢
  simp only [World.setCell, Array.getElem?_modify]
  rw [if_neg hne]; exact h
theorem keep_self3 (s : Bool) (xs ys : List Nat) : (decide (s = s) && same xs xs && same ys ys) = true := by rw [same_self, same_self]; simp
theorem of_nought (x : Int) : ofR x 0 = (none, 3) := if_pos rfl
theorem ofR_cases {x : Int} {b : Nat} {r : Option Rat} {e : Int} (h : ofR x b = (r, e)) : (r = none ∧ e = 3) ∨ (r = none ∧ e = 2) ∨ ∃ q, r = some q ∧ e = 0 := by
  by_cases hb : b = 0
  · exact .inl (ofR_zero hb h)
  · have h2 := ofR_yes hb h
    cases hf : fitsQ (mkRat x b) with
    | false => rw [limR_no hf] at h2; cases h2; exact .inr (.inl ⟨rfl, rfl⟩)
    | true => rw [limR_yes hf] at h2; cases h2; exact .inr (.inr ⟨_, rfl, rfl⟩)
theorem keep_read {w : World} {s s' : Bool} {A B A' B' : Option Addr} {n c m d n' c' m' d' : Nat} {xs ys xs' ys' : List Nat} {q : Rat} {o' : Option Rat} {L L' : Nat} (h : QQ w s A n c xs B m d ys (some q) L) (h' : QQ w s' A' n' c' xs' B' m' d' ys' o' L') :
    (decide (s = s') && same xs xs' && same ys ys') = decide (some q = o') := same_read h.rd h'.rd
theorem wrap_both {a b : Int} (h : IntKind.i64.wrap a = b) : wrap64 a = b := by
  rw [IntKind.wrap_i64] at h; unfold wrap64; omega
theorem or_one {Y : Nat} (hY : Y < 4294967296) : ∃ k : Nat, bits .or .u32 (Y : Int) 1 = (k : Int) ∧ k < 4294967296 ∧ k ≠ 0 := by
  refine ⟨Y ||| 1, u32_or_nat Y 1 hY (by decide), Nat.or_lt_two_pow (n := 32) hY (by decide), fun h => ?_⟩
  have h2 : (Y ||| 1).testBit 0 = false := by rw [h]; rfl
  rw [Nat.testBit_or] at h2
  simp at h2

/-- With a factor more it is the same number. -/
theorem ofR_factor {q : Rat} {k : Nat} (hk : k ≠ 0) (hf : fitsQ q = true) : ofR (zOf (sg q.num) (q.num.natAbs * k)) (q.den * k) = (some q, 0) := by
  have e : zOf (sg q.num) (q.num.natAbs * k) = q.num * (k : Int) := by
    have h := zz_sg q.num
    cases hs : sg q.num with
    | true => rw [hs] at h; unfold zOf at h ⊢; rw [if_pos rfl] at h ⊢; rw [← h]; simp [Int.neg_mul]
    | false => rw [hs] at h; unfold zOf at h ⊢; rw [if_neg (by decide)] at h ⊢; rw [← h]; simp
  unfold ofR
  rw [if_neg (Nat.mul_ne_zero q.den_nz hk), e]
  have e2 : mkRat (q.num * (k : Int)) (q.den * k) = q := by
    rw [Rat.mkRat_mul_right hk, Rat.mkRat_self]
  rw [e2]; exact limR_yes hf

end Go.Proofs.Ytmifgblbicnimaa

/- Mathematics of powers of rational numbers (Lean's own), of the limbs that they have, and of the statements of stage 8. No condition. -/
namespace Go.Proofs.Ytmifgblbicnimaa
open Go.RowKit Limb
set_option linter.unusedVariables false

/-- What a power tells. -/
def powR : Option Rat → Int → Option Rat × Int
  | some q, n => if 128 < n ∨ n < -128 then (none, 2) else if n = 0 then (some 1, 0) else if n < 0 ∧ q.num = 0 then (none, 3) else limR (q ^ n)
  | none, _ => (none, 1)
/-- What a number times a power of ten tells. -/
def scaleR : Option Rat → Int → Option Rat × Int
  | some q, n => if 600 < n ∨ n < -600 then (none, 2) else limR (q * (10 : Rat) ^ n)
  | none, _ => (none, 1)

theorem ne_of_num {q : Rat} (h : q.num ≠ 0) : q ≠ 0 := num_ne h
theorem num_of_ne {q : Rat} (h : q ≠ 0) : q.num ≠ 0 := fun e => h (Rat.num_eq_zero.1 e)
theorem npow_ne {q : Rat} (h : q ≠ 0) (n : Nat) : q ^ n ≠ 0 := by
  refine ne_of_num ?_
  rw [Rat.num_pow]
  exact Int.pow_ne_zero (num_of_ne h)
theorem inv_ne {q : Rat} (h : q ≠ 0) : q⁻¹ ≠ 0 := fun e => by
  have := Rat.mul_inv_cancel q h
  rw [e, Rat.mul_zero] at this
  exact absurd this (by decide)
theorem zpow_ne {q : Rat} (h : q ≠ 0) (n : Int) : q ^ n ≠ 0 := by
  rcases Int.le_total 0 n with h0 | h0
  · obtain ⟨k, rfl⟩ := Int.eq_ofNat_of_zero_le h0
    rw [Rat.zpow_natCast]; exact npow_ne h k
  · obtain ⟨k, hk⟩ := Int.eq_ofNat_of_zero_le (show 0 ≤ -n by omega)
    obtain rfl : n = -(k : Int) := by omega
    rw [Rat.zpow_neg, Rat.zpow_natCast]; exact inv_ne (npow_ne h k)
/-- What is turned: the sign goes to the top. -/
theorem inv_told {q : Rat} (h : q.num ≠ 0) : (q⁻¹).num = zOf (sg q.num) q.den ∧ (q⁻¹).den = q.num.natAbs := by
  rw [Rat.num_inv, Rat.den_inv, if_neg h]
  refine ⟨?_, rfl⟩
  rcases Int.lt_trichotomy q.num 0 with h1 | h1 | h1
  · rw [sg_neg h1, Int.sign_eq_neg_one_of_neg h1]; unfold zOf; rw [if_pos rfl]; omega
  · exact absurd h1 h
  · rw [sg_pos (by omega), Int.sign_eq_one_of_pos h1]; unfold zOf; rw [if_neg (by decide)]; omega

theorem mul_inv {a b : Rat} (ha : a ≠ 0) (hb : b ≠ 0) : (a * b)⁻¹ = a⁻¹ * b⁻¹ := by rw [Rat.inv_mul_rev, Rat.mul_comm]
theorem mul_npow (a b : Rat) (n : Nat) : (a * b) ^ n = a ^ n * b ^ n := by
  induction n with
  | zero => rw [Rat.pow_zero, Rat.pow_zero, Rat.pow_zero, Rat.mul_one]
  | succ n ih =>
    rw [Rat.pow_succ, Rat.pow_succ, Rat.pow_succ, ih, Rat.mul_assoc, Rat.mul_assoc]
    congr 1
    rw [← Rat.mul_assoc, Rat.mul_comm (b ^ n) a, Rat.mul_assoc]
theorem mul_ne {a b : Rat} (ha : a ≠ 0) (hb : b ≠ 0) : a * b ≠ 0 := fun e => by
  rcases Rat.mul_eq_zero.1 e with h | h
  · exact ha h
  · exact hb h
theorem mul_zpow {a b : Rat} (ha : a ≠ 0) (hb : b ≠ 0) (n : Int) : (a * b) ^ n = a ^ n * b ^ n := by
  rcases Int.le_total 0 n with h0 | h0
  · obtain ⟨k, rfl⟩ := Int.eq_ofNat_of_zero_le h0
    rw [Rat.zpow_natCast, Rat.zpow_natCast, Rat.zpow_natCast, mul_npow]
  · obtain ⟨k, hk⟩ := Int.eq_ofNat_of_zero_le (show 0 ≤ -n by omega)
    obtain rfl : n = -(k : Int) := by omega
    rw [Rat.zpow_neg, Rat.zpow_neg, Rat.zpow_neg, Rat.zpow_natCast, Rat.zpow_natCast, Rat.zpow_natCast, mul_npow, mul_inv (npow_ne ha k) (npow_ne hb k)]
theorem zpow_mul_nat {a : Rat} (ha : a ≠ 0) (k : Int) (j : Nat) : (a ^ k) ^ j = a ^ (k * (j : Int)) := by
  induction j with
  | zero => rw [Rat.pow_zero, show k * ((0 : Nat) : Int) = 0 by simp, Rat.zpow_zero]
  | succ j ih =>
    rw [Rat.pow_succ, ih, ← Rat.zpow_add ha]
    congr 1
    rw [Int.natCast_succ, Int.mul_add, Int.mul_one]
theorem zpow_mul {a : Rat} (ha : a ≠ 0) (k j : Int) : (a ^ k) ^ j = a ^ (k * j) := by
  rcases Int.le_total 0 j with h0 | h0
  · obtain ⟨i, rfl⟩ := Int.eq_ofNat_of_zero_le h0
    rw [Rat.zpow_natCast, zpow_mul_nat ha]
  · obtain ⟨i, hi⟩ := Int.eq_ofNat_of_zero_le (show 0 ≤ -j by omega)
    obtain rfl : j = -(i : Int) := by omega
    rw [Rat.zpow_neg, Rat.zpow_natCast, zpow_mul_nat ha, ← Rat.zpow_neg, Int.mul_neg]

/-- How many limbs a power has. -/
theorem pow_room {x l n : Nat} (h : x < 4294967296 ^ l) : x ^ n < 4294967296 ^ (l * n + 1) := by
  have h1 : x ^ n ≤ (4294967296 ^ l) ^ n := Nat.pow_le_pow_left (Nat.le_of_lt h) n
  rw [← Nat.pow_mul] at h1
  refine Nat.lt_of_le_of_lt h1 (Nat.pow_lt_pow_right (by decide) (Nat.lt_succ_self _))
theorem Bd.npow {q : Rat} {k l : Nat} (h : Bd q k l) (n : Nat) : Bd (q ^ n) (k * n + 1) (l * n + 1) := by
  refine ⟨?_, ?_⟩
  · rw [Rat.num_pow, Int.natAbs_pow]; exact pow_room h.1
  · rw [Rat.den_pow]; exact pow_room h.2
theorem Bd.inv {q : Rat} {k l : Nat} (h : Bd q k l) (hq : q.num ≠ 0) : Bd (q⁻¹) l k := by
  obtain ⟨h1, h2⟩ := inv_told hq
  refine ⟨?_, ?_⟩
  · rw [h1, zOf_abs]; exact h.2
  · rw [h2]; exact h.1
theorem Bd.zpow {q : Rat} {l : Nat} (h : Bd q l l) (hq : q ≠ 0) (n : Int) : Bd (q ^ n) (l * n.natAbs + 1) (l * n.natAbs + 1) := by
  rcases Int.le_total 0 n with h0 | h0
  · obtain ⟨k, rfl⟩ := Int.eq_ofNat_of_zero_le h0
    rw [Rat.zpow_natCast, Int.natAbs_natCast]; exact h.npow k
  · obtain ⟨k, hk⟩ := Int.eq_ofNat_of_zero_le (show 0 ≤ -n by omega)
    obtain rfl : n = -(k : Int) := by omega
    rw [Rat.zpow_neg, Rat.zpow_natCast, Int.natAbs_neg, Int.natAbs_natCast]
    exact (h.npow k).inv (num_of_ne (npow_ne hq k))
theorem one_bd : Bd 1 1 1 := by unfold Bd; decide +kernel

/-- A power that has room. -/
theorem pow_is {q z : Rat} {n : Int} {l : Nat} (hn : -128 ≤ n ∧ n ≤ 128) (hq : q ≠ 0 ∨ 0 ≤ n) (e : q ^ n = z) (h : Bd z l l) (hl : l ≤ 64) : powR (some q) n = (some z, 0) := by
  show (if 128 < n ∨ n < -128 then ((none : Option Rat), (2 : Int)) else if n = 0 then (some 1, 0) else if n < 0 ∧ q.num = 0 then (none, 3) else limR (q ^ n)) = _
  rw [if_neg (by omega)]
  by_cases h0 : n = 0
  · rw [if_pos h0, ← e, h0, Rat.zpow_zero]
  · rw [if_neg h0, if_neg, e]
    · exact limR_fits h hl hl
    · rintro ⟨h1, h2⟩
      rcases hq with h3 | h3
      · exact num_of_ne h3 h2
      · omega
theorem pow_none {q : Rat} {n : Int} (hn : -128 ≤ n ∧ n < 0) (hq : q.num = 0) : powR (some q) n = (none, 3) := by
  show (if 128 < n ∨ n < -128 then ((none : Option Rat), (2 : Int)) else if n = 0 then (some 1, 0) else if n < 0 ∧ q.num = 0 then (none, 3) else limR (q ^ n)) = _
  rw [if_neg (by omega), if_neg (by omega), if_pos ⟨hn.2, hq⟩]
theorem scale_is {q z : Rat} {n : Int} {l : Nat} (hn : -600 ≤ n ∧ n ≤ 600) (e : q * (10 : Rat) ^ n = z) (h : Bd z l l) (hl : l ≤ 64) : scaleR (some q) n = (some z, 0) := by
  show (if 600 < n ∨ n < -600 then ((none : Option Rat), (2 : Int)) else limR (q * (10 : Rat) ^ n)) = _
  rw [if_neg (by omega), e]; exact limR_fits h hl hl

theorem ten_ne : (10 : Rat) ≠ 0 := by decide
theorem ten_room (n : Nat) : 10 ^ n < 4294967296 ^ (n / 9 + 1) := by
  have h1 : 10 ^ n ≤ 10 ^ (9 * (n / 9) + 8) := Nat.pow_le_pow_right (by decide) (by omega)
  have h2 : 10 ^ (9 * (n / 9) + 8) = (10 ^ 9) ^ (n / 9) * 10 ^ 8 := by rw [Nat.pow_add, Nat.pow_mul]
  have h3 : (10 ^ 9) ^ (n / 9) ≤ 4294967296 ^ (n / 9) := Nat.pow_le_pow_left (by decide) _
  have h4 : (10 ^ 9) ^ (n / 9) * 10 ^ 8 < 4294967296 ^ (n / 9) * 4294967296 := Nat.lt_of_le_of_lt (Nat.mul_le_mul_right _ h3) (Nat.mul_lt_mul_of_pos_left (by decide) (Nat.pow_pos (by decide)))
  rw [Nat.pow_succ]
  omega
theorem ten_bd (n : Int) : Bd ((10 : Rat) ^ n) (n.natAbs / 9 + 1) (n.natAbs / 9 + 1) := by
  have hN : ∀ k : Nat, Bd ((10 : Rat) ^ k) (k / 9 + 1) (k / 9 + 1) := fun k => by
    refine ⟨?_, ?_⟩
    · rw [Rat.num_pow, Int.natAbs_pow]; exact ten_room k
    · rw [Rat.den_pow, show (10 : Rat).den = 1 from rfl, Nat.one_pow]; exact Nat.one_lt_pow (by omega) (by decide)
  rcases Int.le_total 0 n with h0 | h0
  · obtain ⟨k, rfl⟩ := Int.eq_ofNat_of_zero_le h0
    rw [Rat.zpow_natCast, Int.natAbs_natCast]; exact hN k
  · obtain ⟨k, hk⟩ := Int.eq_ofNat_of_zero_le (show 0 ≤ -n by omega)
    obtain rfl : n = -(k : Int) := by omega
    rw [Rat.zpow_neg, Rat.zpow_natCast, Int.natAbs_neg, Int.natAbs_natCast]
    exact (hN k).inv (num_of_ne (npow_ne ten_ne k))

theorem rlt_trans {a b c : Rat} (h : a < b) (k : b < c) : a < c := by
  refine Rat.not_le.1 fun h2 => ?_
  have h3 := Rat.le_trans h2 (Rat.le_of_lt h)
  exact absurd k (Rat.not_lt.2 h3)
/-- Signs and the order of powers. -/
theorem npow_lt {p q : Rat} (hp : 0 < p) (h : p < q) (n : Nat) : p ^ (n + 1) < q ^ (n + 1) := by
  induction n with
  | zero => rw [Rat.pow_one, Rat.pow_one]; exact h
  | succ n ih =>
    rw [Rat.pow_succ p, Rat.pow_succ q]
    have hq : 0 < q := rlt_trans hp h
    have h1 : p ^ (n + 1) * p < q ^ (n + 1) * p := Rat.mul_lt_mul_of_pos_right ih hp
    have h2 : p * q ^ (n + 1) < q * q ^ (n + 1) := Rat.mul_lt_mul_of_pos_right h (Rat.pow_pos hq)
    rw [Rat.mul_comm p, Rat.mul_comm q] at h2
    exact rlt_trans h1 h2
theorem inv_lt {p q : Rat} (hp : 0 < p) (h : p < q) : q⁻¹ < p⁻¹ := by
  have hq : 0 < q := rlt_trans hp h
  have p0 : p ≠ 0 := fun e => by rw [e] at hp; exact absurd hp (by decide)
  have q0 : q ≠ 0 := fun e => by rw [e] at hq; exact absurd hq (by decide)
  have ip : 0 < p⁻¹ := Rat.inv_pos.2 hp
  have iq : 0 < q⁻¹ := Rat.inv_pos.2 hq
  have h1 : p * (p⁻¹ * q⁻¹) < q * (p⁻¹ * q⁻¹) := Rat.mul_lt_mul_of_pos_right h (Rat.mul_pos ip iq)
  rw [← Rat.mul_assoc, Rat.mul_inv_cancel p p0, Rat.one_mul, Rat.mul_comm p⁻¹, ← Rat.mul_assoc, Rat.mul_inv_cancel q q0, Rat.one_mul] at h1
  exact h1
theorem cmpQ_npow {p q : Rat} (hp : 0 < p) (hq : 0 < q) (n : Nat) : cmpQ (p ^ (n + 1)) (q ^ (n + 1)) = cmpQ p q := by
  rcases rat_tri p q with h | h | h
  · rw [cmpQ_lt h, cmpQ_lt (npow_lt hp h n)]
  · subst h; rw [cmpQ_eq rfl, cmpQ_eq rfl]
  · rw [cmpQ_gt h, cmpQ_gt (npow_lt hq h n)]
theorem cmpQ_inv {p q : Rat} (hp : 0 < p) (hq : 0 < q) : cmpQ p⁻¹ q⁻¹ = -cmpQ p q := by
  rcases rat_tri p q with h | h | h
  · rw [cmpQ_lt h, cmpQ_gt (inv_lt hp h)]; rfl
  · subst h; rw [cmpQ_eq rfl, cmpQ_eq rfl]; rfl
  · rw [cmpQ_gt h, cmpQ_lt (inv_lt hq h)]
/-- The sign of a power: a product of signs. -/
theorem cmpQ_mul0 (p q : Rat) : cmpQ (p * q) 0 = cmpQ p 0 * cmpQ q 0 := by
  have h := cmpQ_mul p 0 q
  rwa [Rat.zero_mul] at h
theorem sign_even (q : Rat) (n : Nat) : cmpQ (q ^ (2 * n + 2)) 0 = cmpQ q 0 * cmpQ q 0 ∧ cmpQ (q ^ (2 * n + 1)) 0 = cmpQ q 0 := by
  have hs : ∀ s : Int, -1 ≤ s ∧ s ≤ 1 → s * s * s = s := fun s ⟨h1, h2⟩ => by
    have : s = -1 ∨ s = 0 ∨ s = 1 := by omega
    rcases this with h | h | h <;> subst h <;> rfl
  induction n with
  | zero => exact ⟨by rw [show 2 * 0 + 2 = 0 + 1 + 1 from rfl, Rat.pow_succ, cmpQ_mul0, Rat.pow_one], by rw [Rat.pow_one]⟩
  | succ n ih =>
    have e1 : cmpQ (q ^ (2 * (n + 1) + 1)) 0 = cmpQ q 0 := by
      rw [show 2 * (n + 1) + 1 = (2 * n + 2) + 1 by omega, Rat.pow_succ, cmpQ_mul0, ih.1]; exact hs _ (cmpQ_bounds q 0)
    refine ⟨?_, e1⟩
    rw [show 2 * (n + 1) + 2 = (2 * (n + 1) + 1) + 1 by omega, Rat.pow_succ, cmpQ_mul0, e1]

end Go.Proofs.Ytmifgblbicnimaa

/- Mathematics of the statements of stage 8: which powers have room, and what they are. No condition. -/
namespace Go.Proofs.Ytmifgblbicnimaa
open Go.RowKit Limb
set_option linter.unusedVariables false

theorem abs_mul_le {k j : Int} (hk : k.natAbs ≤ 5) (hj : j.natAbs ≤ 5) : (k * j).natAbs ≤ 25 := by
  rw [Int.natAbs_mul]; exact Nat.mul_le_mul hk hj
theorem pow_some {q : Rat} {l : Nat} (hq : Bd q l l) (q0 : q ≠ 0) {n : Int} {m : Nat} (hn : n.natAbs ≤ m) (hm : m ≤ 128) (hl : l * m + 1 ≤ 64) : powR (some q) n = (some (q ^ n), 0) := by
  have h := hq.zpow q0 n
  have h2 : l * n.natAbs + 1 ≤ 64 := Nat.le_trans (Nat.succ_le_succ (Nat.mul_le_mul_left l hn)) hl
  exact pow_is (by omega) (.inl q0) rfl h h2

theorem sums_facts {a b : Rat} (ha : Bd a 2 2) (hb : Bd b 2 2) (a0 : a.num ≠ 0) (b0 : b.num ≠ 0) {k j : Int} (hk : k.natAbs ≤ 5) (hj : j.natAbs ≤ 5) :
    ∃ x y z q c s t : Rat, powR (some a) k = (some x, 0) ∧ powR (some a) j = (some y, 0) ∧ powR (some a) (k + j) = (some z, 0) ∧ mulR (some x) (some y) = (some z, 0) ∧ powR (some x) j = (some q, 0) ∧ powR (some a) (k * j) = (some q, 0) ∧
      mulR (some a) (some b) = (some c, 0) ∧ powR (some c) k = (some s, 0) ∧ powR (some b) k = (some t, 0) ∧ mulR (some x) (some t) = (some s, 0) := by
  have a1 := num_ne a0
  have b1 := num_ne b0
  have c1 := mul_ne a1 b1
  have hc : Bd (a * b) 4 4 := ha.mul hb
  have kj := abs_mul_le hk hj
  have hz : Bd (a ^ (k + j)) 21 21 := (ha.zpow a1 (k + j)).mono (by omega) (by omega)
  have hq : Bd (a ^ (k * j)) 51 51 := (ha.zpow a1 (k * j)).mono (by omega) (by omega)
  have hs : Bd ((a * b) ^ k) 21 21 := (hc.zpow c1 k).mono (by omega) (by omega)
  refine ⟨a ^ k, a ^ j, a ^ (k + j), a ^ (k * j), a * b, (a * b) ^ k, b ^ k, pow_some ha a1 hk (by decide) (by decide), pow_some ha a1 hj (by decide) (by decide), pow_some ha a1 (show (k + j).natAbs ≤ 10 by omega) (by decide) (by decide), ?_, ?_, pow_some ha a1 kj (by decide) (by decide),
    mul_is rfl hc (by decide) (by decide), pow_some hc c1 hk (by decide) (by decide), pow_some hb b1 hk (by decide) (by decide), ?_⟩
  · exact mul_is (Rat.zpow_add a1 k j).symm hz (by decide) (by decide)
  · exact pow_is (by omega) (.inl (zpow_ne a1 k)) (zpow_mul a1 k j) hq (by decide)
  · exact mul_is (mul_zpow a1 b1 k).symm hs (by decide) (by decide)

theorem zero_of_num {q : Rat} (h : q.num = 0) : q = 0 := Rat.num_eq_zero.1 h
theorem zero_npow (n : Nat) : (0 : Rat) ^ (n + 1) = 0 := by rw [Rat.pow_succ, Rat.mul_zero]
/-- Powers of 0 by what is not below 0. -/
theorem zero_facts {q : Rat} (h : q.num = 0) {k : Nat} (hk : k ≤ 128) : ∃ x : Rat, powR (some q) (k : Int) = (some x, 0) ∧ decide (some x = some (0 : Rat)) = decide (0 < k) := by
  obtain rfl := zero_of_num h
  have hz : Bd (0 : Rat) 1 1 := by unfold Bd; decide +kernel
  rcases Nat.eq_zero_or_pos k with h0 | h0
  · subst h0
    exact ⟨1, pow_is (by omega) (.inr (by omega)) (Rat.zpow_zero _) one_bd (by decide), by decide +kernel⟩
  · obtain ⟨n, rfl⟩ : ∃ n, k = n + 1 := ⟨k - 1, by omega⟩
    refine ⟨0, pow_is (by omega) (.inr (by omega)) (by rw [Rat.zpow_natCast]; exact zero_npow n) hz (by decide), ?_⟩
    rw [decide_eq_true rfl, decide_eq_true (by omega)]

/-- The sign of a power. -/
def signPow (s : Int) (k : Nat) : Int := if k = 0 then 1 else if k % 2 = 0 then s * s else s
theorem sign_pow (q : Rat) (k : Nat) : cmpQ (q ^ k) 0 = signPow (cmpQ q 0) k := by
  unfold signPow
  by_cases h0 : k = 0
  · rw [if_pos h0, h0, Rat.pow_zero]; decide +kernel
  · rw [if_neg h0]
    by_cases h2 : k % 2 = 0
    · rw [if_pos h2]
      obtain ⟨n, rfl⟩ : ∃ n, k = 2 * n + 2 := ⟨k / 2 - 1, by omega⟩
      exact (sign_even q n).1
    · rw [if_neg h2]
      obtain ⟨n, rfl⟩ : ∃ n, k = 2 * n + 1 := ⟨k / 2, by omega⟩
      exact (sign_even q n).2
theorem signs_facts {a : Rat} (ha : Bd a 2 2) {k : Nat} (hk : k ≤ 8) :
    ∃ x : Rat, powR (some a) (k : Int) = (some x, 0) ∧ cmpR (some x) (some 0) = signPow (cmpQ a 0) k ∧ ((a.num = 0 ∧ 0 < k ∧ powR (some a) (-(k : Int)) = (none, 3)) ∨ ((a.num ≠ 0 ∨ k = 0) ∧ ∃ y : Rat, powR (some a) (-(k : Int)) = (some y, 0) ∧ mulR (some x) (some y) = (some 1, 0))) := by
  have hx : Bd (a ^ k) 17 17 := (ha.npow k).mono (by omega) (by omega)
  refine ⟨a ^ k, pow_is (by omega) (.inr (by omega)) (Rat.zpow_natCast _ _) hx (by decide), sign_pow a k, ?_⟩
  by_cases h0 : a.num = 0 ∧ 0 < k
  · exact .inl ⟨h0.1, h0.2, pow_none (by omega) h0.1⟩
  · refine .inr ⟨by omega, ?_⟩
    rcases Nat.eq_zero_or_pos k with hk0 | hk0
    · subst hk0
      exact ⟨1, pow_is (by omega) (.inr (by omega)) (Rat.zpow_zero _) one_bd (by decide), mul_is (by rw [Rat.pow_zero, Rat.mul_one]) one_bd (by decide) (by decide)⟩
    · have a1 : a ≠ 0 := num_ne (fun h => h0 ⟨h, hk0⟩)
      refine ⟨a ^ (-(k : Int)), pow_some ha a1 (show (-(k : Int)).natAbs ≤ 8 by omega) (by decide) (by decide), mul_is ?_ one_bd (by decide) (by decide)⟩
      rw [← Rat.zpow_natCast, ← Rat.zpow_add a1, Int.add_right_neg, Rat.zpow_zero]

theorem tens_facts {a : Rat} (ha : Bd a 4 4) {n m : Int} (hn : -128 ≤ n ∧ n ≤ 127) (hm : -128 ≤ m ∧ m ≤ 127) :
    ∃ x y : Rat, scaleR (some a) n = (some x, 0) ∧ scaleR (some x) m = (some y, 0) ∧ scaleR (some a) (n + m) = (some y, 0) ∧ scaleR (some x) (-n) = (some a, 0) := by
  have hx : Bd (a * (10 : Rat) ^ n) 19 19 := (ha.mul (ten_bd n)).mono (by omega) (by omega)
  have hy : Bd (a * (10 : Rat) ^ (n + m)) 33 33 := (ha.mul (ten_bd (n + m))).mono (by omega) (by omega)
  refine ⟨a * (10 : Rat) ^ n, a * (10 : Rat) ^ (n + m), scale_is (by omega) rfl hx (by decide), scale_is (by omega) ?_ hy (by decide), scale_is (by omega) rfl hy (by decide), scale_is (by omega) ?_ ha (by decide)⟩
  · rw [Rat.mul_assoc, ← Rat.zpow_add ten_ne]
  · rw [Rat.mul_assoc, ← Rat.zpow_add ten_ne, Int.add_right_neg, Rat.zpow_zero, Rat.mul_one]

theorem pos_of_cmp {q : Rat} (h : 0 < cmpQ q 0) : 0 < q := by
  rcases rat_tri q 0 with h2 | h2 | h2
  · rw [cmpQ_lt h2] at h; omega
  · rw [cmpQ_eq h2] at h; omega
  · exact h2
theorem porder_facts {a b : Rat} (ha : Bd a 2 2) (hb : Bd b 2 2) (pa : 0 < cmpQ a 0) (pb : 0 < cmpQ b 0) {k : Nat} (hk : 1 ≤ k ∧ k ≤ 9) :
    ∃ (x y z t : Rat) (c d : Int), powR (some a) (k : Int) = (some x, 0) ∧ powR (some b) (k : Int) = (some y, 0) ∧ powR (some a) (-(k : Int)) = (some z, 0) ∧ powR (some b) (-(k : Int)) = (some t, 0) ∧
      cmpR (some a) (some b) = c ∧ cmpR (some x) (some y) = c ∧ cmpR (some z) (some t) = d ∧ IntKind.i64.wrap (-c) = d := by
  have a1 := pos_of_cmp pa
  have b1 := pos_of_cmp pb
  have a0 : a ≠ 0 := fun e => by rw [e] at a1; exact absurd a1 (by decide)
  have b0 : b ≠ 0 := fun e => by rw [e] at b1; exact absurd b1 (by decide)
  obtain ⟨n, rfl⟩ : ∃ n, k = n + 1 := ⟨k - 1, by omega⟩
  have e1 := cmpQ_npow a1 b1 n
  have e2 := cmpQ_inv (Rat.pow_pos a1 (n := n + 1)) (Rat.pow_pos b1 (n := n + 1))
  refine ⟨a ^ (n + 1), b ^ (n + 1), a ^ (-((n + 1 : Nat) : Int)), b ^ (-((n + 1 : Nat) : Int)), cmpQ a b, -cmpQ a b, pow_some ha a0 (show ((n + 1 : Nat) : Int).natAbs ≤ 9 by omega) (by decide) (by decide), pow_some hb b0 (show ((n + 1 : Nat) : Int).natAbs ≤ 9 by omega) (by decide) (by decide),
    pow_some ha a0 (show (-((n + 1 : Nat) : Int)).natAbs ≤ 9 by omega) (by decide) (by decide), pow_some hb b0 (show (-((n + 1 : Nat) : Int)).natAbs ≤ 9 by omega) (by decide) (by decide), rfl, e1, ?_, ?_⟩
  · show cmpQ _ _ = _
    rw [Rat.zpow_neg, Rat.zpow_neg, Rat.zpow_natCast, Rat.zpow_natCast, e2, e1]
  · have := cmpQ_bounds a b
    rw [← cmpQ_swap]; exact sign_wrap (cmpQ_bounds b a)

theorem ten_num (n : Nat) : ((10 : Rat) ^ n).num = ((10 ^ n : Nat) : Int) ∧ ((10 : Rat) ^ n).den = 1 := by
  refine ⟨?_, ?_⟩
  · rw [Rat.num_pow, show (10 : Rat).num = ((10 : Nat) : Int) from rfl, Int.natCast_pow]
  · rw [Rat.den_pow, show (10 : Rat).den = 1 from rfl, Nat.one_pow]
/-- A number times a power of ten, out of its top and its bottom. -/
theorem scale_up (q : Rat) (n : Nat) : ofR (q.num * ((10 ^ n : Nat) : Int)) q.den = limR (q * (10 : Rat) ^ (n : Int)) := by
  obtain ⟨h1, h2⟩ := ten_num n
  unfold ofR
  rw [if_neg q.den_nz, Rat.zpow_natCast, mul_mk, h1, h2, Nat.mul_one]
theorem scale_down (q : Rat) (n : Nat) : ofR q.num (q.den * 10 ^ n) = limR (q * (10 : Rat) ^ (-(n : Int))) := by
  have h0 : ((10 : Rat) ^ n).num ≠ 0 := num_of_ne (npow_ne ten_ne n)
  have hp : (10 : Nat) ^ n ≠ 0 := Nat.pos_iff_ne_zero.1 (Nat.pow_pos (by decide))
  obtain ⟨h1, h2⟩ := ten_num n
  obtain ⟨h3, h4⟩ := inv_told h0
  unfold ofR
  rw [if_neg (Nat.mul_ne_zero q.den_nz hp), Rat.zpow_neg, Rat.zpow_natCast, mul_mk, h3, h4, h1, h2, Int.natAbs_natCast, sg_pos (show (0 : Int) ≤ ((10 ^ n : Nat) : Int) from Int.natCast_nonneg _)]
  congr 2
  unfold zOf
  rw [if_neg (by decide)]; simp
/-- The sign of a power, as it is told. -/
theorem zOf_pow {x : Int} (n : Nat) : zOf (sg x && decide (n % 2 = 1)) (x.natAbs ^ n) = x ^ n := by
  induction n with
  | zero => simp [zOf]
  | succ n ih =>
    rw [Int.pow_succ, ← ih, Nat.pow_succ]
    have hx := zz_sg x
    cases hs : sg x with
    | false =>
      rw [hs] at hx
      have e : zOf false x.natAbs = (x.natAbs : Int) := by unfold zOf; rw [if_neg (by decide)]
      rw [e] at hx
      unfold zOf
      simp only [Bool.false_and, Bool.false_eq_true, if_false]
      rw [Int.natCast_mul, hx]
    | true =>
      rw [hs] at hx
      have e : zOf true x.natAbs = -(x.natAbs : Int) := by unfold zOf; rw [if_pos rfl]
      rw [e] at hx
      unfold zOf
      simp only [Bool.true_and, decide_eq_true_eq]
      by_cases h : n % 2 = 1
      · rw [if_pos h, if_neg (by omega), Int.natCast_mul, Int.neg_mul, ← Int.mul_neg]
        congr 1
        omega
      · rw [if_neg h, if_pos (by omega), Int.natCast_mul, ← Int.mul_neg, hx]

theorem powR_big {q : Rat} {n : Int} (h : 128 < n ∨ n < -128) : powR (some q) n = (none, 2) := if_pos h
theorem powR_zero {q : Rat} {n : Int} (h : n = 0) : powR (some q) n = (some 1, 0) := by
  subst h; rfl
theorem powR_lim {q : Rat} {n : Int} (h1 : n ≤ 128) (h2 : -128 ≤ n) (h0 : n ≠ 0) (hq : 0 < n ∨ q.num ≠ 0) : powR (some q) n = limR (q ^ n) := by
  show (if 128 < n ∨ n < -128 then ((none : Option Rat), (2 : Int)) else if n = 0 then (some 1, 0) else if n < 0 ∧ q.num = 0 then (none, 3) else limR (q ^ n)) = _
  rw [if_neg (by omega), if_neg h0, if_neg (by omega)]
theorem scaleR_big {q : Rat} {n : Int} (h : 600 < n ∨ n < -600) : scaleR (some q) n = (none, 2) := if_pos h
theorem scaleR_lim {q : Rat} {n : Int} (h1 : n ≤ 600) (h2 : -600 ≤ n) : scaleR (some q) n = limR (q * (10 : Rat) ^ n) := if_neg (by omega)
theorem ten_fits {n : Nat} (h : n ≤ 600) : 10 ^ n < 4294967296 ^ 67 :=
  Nat.lt_of_lt_of_le (ten_room n) (Nat.pow_le_pow_right (by decide) (by omega))

end Go.Proofs.Ytmifgblbicnimaa

/- What package whole's own helpers answer (signed, isBelow), and strings.CutPrefix of a minus sign, as contracts over memory. Conditions: sizes of at most so many limbs. -/
namespace Go.Proofs.Ytmifgblbicnimaa
open Go.RowKit Limb
set_option linter.unusedVariables false

theorem len_limbs_zero {a : Nat} : (limbs a).length = 0 ↔ a = 0 := by
  constructor
  · intro h
    have h2 := val_limbs a
    rw [List.eq_nil_of_length_eq_zero h] at h2
    exact h2.symm
  · rintro rfl; rw [limbs_zero]; rfl

/-- Two results: a row of cells, and a plain one. -/
theorem results_mixed {P : Program} {fn : Func} {p q : Tmp} {ty : TypeId} (h : fn.results = #[.cell p ty, .tmp q]) (tmps : Array Value) (w : World) (g : Nat) (t : TypeId) (cs : Array Value) (fr : Nat × Nat) (d : TypeDesc) (v : Value)
    (hp : tmps.getD p undef = .pointer (some ⟨g, 0, none⟩)) (hq : tmps.getD q undef = v) (hg : w.heap[g]? = some (.cells cs t fr))
    (hu : P.underlying ty = some d) (hd : (match d with | .struct _ | .array _ _ => true | _ => false) = true) (hi : (P.info? ty).map (·.size) = some cs.size) :
    (results fn tmps).run P w = .ok (.tuple #[.agg cs, v]) w := by
  have hp' : tmps[p]?.getD undef = .pointer (some ⟨g, 0, none⟩) := by simpa using hp
  have hq' : tmps[q]?.getD undef = v := by simpa using hq
  simp [results, h, hp', hq', asAddr, run_loadVar_row w g t ty cs fr d hg hu hd hi]

section
variable {w : World} {s s' : Bool} {A A' : Option Addr} {n c n' c' : Nat} {xs ys : List Nat} {x y : Int} {L L' : Nat}

theorem signed_c {a : Nat} (hx : NN w A n c (limbs a) a L) (b : Bool) (z : Int) (hz : zOf b a = z) :
    Calls Try.prog 62 #[.bool b, .slice A n c] w fun e w' => e = .returned (.agg #[.bool (sg z), .slice A n c]) ∧ ZZ w' (sg z) A n c (limbs z.natAbs) z L ∧ Below w.heap.size w w' := by
  have ez : z.natAbs = a := by rw [← hz, zOf_abs]
  have hn : n = 0 ↔ a = 0 := by rw [← hx.isN.len]; exact len_limbs_zero
  have HZ : RowKit.Hid (ZZ w (sg z) A n c (limbs z.natAbs) z L) := ZZ.mk' (by rw [ez]; exact hx)
  clear hx
  by_cases hb : b = true
  · subst hb
    by_cases h0 : a = 0
    · have es : sg z = false := by rw [← hz, h0]; rfl
      obtain rfl : n = 0 := hn.2 h0
      rw [es] at HZ ⊢
      clear es hn ez hz h0
      go_enter Try.func62, Try.ntmps62
      go_wp2
      refine bodyPost_ret (results_cell_row rfl _ _ w.heap.size 25 #[.bool false, .slice A 0 c] (0, 0) _ rfl (row2_new w _ _ _) Try.underlying25 rfl int_size) rfl ?_
      exact ⟨rfl, HZ.out.below (below_new _ _), below_new _ _⟩
    · have es : sg z = true := by
        rw [← hz]; apply sg_neg
        unfold zOf; rw [if_pos rfl]; omega
      have Hp : RowKit.Hid (decide (0 < n) = true) := by
        have : n ≠ 0 := fun h => h0 (hn.1 h)
        show _ = _
        rw [decide_eq_true_eq]; omega
      rw [es] at HZ ⊢
      clear es hn ez hz h0
      go_enter Try.func62, Try.ntmps62
      go_wp2
      refine bodyPost_ret (results_cell_row rfl _ _ w.heap.size 25 #[.bool (decide (0 < n)), .slice A n c] (0, 0) _ rfl (row2_new w _ _ _) Try.underlying25 rfl int_size) rfl ?_
      exact ⟨by rw [Hp.out], HZ.out.below (below_new _ _), below_new _ _⟩
  · have hb2 : b = false := by simpa using hb
    subst hb2
    have es : sg z = false := by rw [← hz]; apply sg_pos; unfold zOf; simp
    rw [es] at HZ ⊢
    clear es hn ez hz hb
    go_enter Try.func62, Try.ntmps62
    go_wp2
    refine bodyPost_ret (results_cell_row rfl _ _ w.heap.size 25 #[.bool false, .slice A n c] (0, 0) _ rfl (row2_new w _ _ _) Try.underlying25 rfl int_size) rfl ?_
    exact ⟨rfl, HZ.out.below (below_new _ _), below_new _ _⟩

theorem isBelow_c (hx : ZZ w s A n c xs x L) (h1 : L ≤ 1000000000) (v : Bool) (hv : sg x = v) :
    Calls Try.prog 61 #[.agg #[.bool s, .slice A n c]] w fun e w' => e = .returned (.bool v) ∧ Below w.heap.size w w' := by
  have b1 := below_new w (.cells #[Value.bool s, Value.slice A n c] 25)
  have r1 := row2_new w 25 (.bool s) (.slice A n c)
  have HN := Lib.hid (hx.nn.below b1)
  have HB := Lib.hid b1
  have hc0 := r1.c0
  have hc1 := r1.c1
  have hsg := hx.sgn
  clear b1 r1 hx
  cases s with
  | false =>
    have ev : v = false := by rw [← hv]; apply sg_pos; rw [hsg]; simp
    subst ev
    clear hsg hv
    go_enter Try.func61, Try.ntmps61
    go_wp2
    go_ret
    exact ⟨rfl, HB.out⟩
  | true =>
    have ev : decide ((0 : Int) < ((blen x.natAbs : Nat) : Int)) = v := by
      rw [← hv]
      unfold sg
      rw [if_pos rfl] at hsg
      rw [decide_eq_decide]
      have h2 : blen x.natAbs = 0 ↔ x.natAbs = 0 := blen_eq_zero
      omega
    obtain ⟨m, hm⟩ : ∃ m, ((blen x.natAbs : Nat) : Int) = m := ⟨_, rfl⟩
    rw [hm] at ev
    have Hm := Lib.hid hm
    clear hsg hv hm
    go_enter Try.func61, Try.ntmps61
    go_wp2_with fail
    refine (bits_c HN.out h1 m Hm.out).mono ?_
    rintro e w2 ⟨rfl, rfl⟩
    by_cases hp : 0 < m
    · have ev2 : v = true := by rw [← ev]; simp [hp]
      subst ev2
      go_wp2
      go_ret
      exact ⟨rfl, HB.out⟩
    · have ev2 : v = false := by rw [← ev]; simp; omega
      subst ev2
      go_wp2
      go_ret
      exact ⟨rfl, HB.out⟩
end

/-- The first byte of a text is a minus sign; what stands behind it. -/
theorem bytesOf_tail {S : ByteArray} (h : 1 ≤ S.size) : bytesOf (S.extract 1 S.size) = (bytesOf S).tail := by
  unfold bytesOf
  rw [ByteArray.data_extract, Array.toList_extract, List.extract_eq_take_drop, List.map_take, List.map_drop, List.drop_one]
  refine List.take_of_length_le ?_
  rw [List.length_tail, List.length_map, Array.length_toList]
  exact Nat.le_refl _
theorem bytesOf_first {S : ByteArray} : bytesOf (S.extract 0 1) = (bytesOf S).take 1 := by
  unfold bytesOf
  rw [ByteArray.data_extract, Array.toList_extract, List.extract_eq_take_drop, List.map_take, List.map_drop]
  rfl
theorem head_minus (S : ByteArray) : ((S.extract 0 1).toList == (⟨#[45]⟩ : ByteArray).toList) = decide ((bytesOf S).head? = some 45) := by
  have e1 : S.extract 0 1 = strOf ((bytesOf S).take 1) := by rw [← bytesOf_first, strOf_bytesOf]
  have e2 : (⟨#[45]⟩ : ByteArray) = strOf [45] := rfl
  rw [e1, e2, str_beq (bytes_take (bytes_bytesOf S) 1) (bytes_cons.2 ⟨by decide, bytes_nil⟩), decide_eq_decide]
  cases bytesOf S with
  | nil => simp
  | cons x l => simp

end Go.Proofs.Ytmifgblbicnimaa
