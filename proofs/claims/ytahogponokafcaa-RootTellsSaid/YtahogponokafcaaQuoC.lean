/- What package quo's guess and takeOut answer, as contracts over memory: how often a row is in another one. Conditions: the row that is written is the call's own, one limb longer than the other, and less than it times 2^32; the other one has two limbs or more, its highest bit set; at most 10^9 limbs. -/
import Derived.Test.YtahogponokafcaaQuoB
namespace Go.Proofs.Ytahogponokafcaa
open Go.RowKit Limb
set_option linter.unusedVariables false

theorem guessV_dec {top high next r2 o p : Nat} (ho : guessO top high = o) (h1 : top - o * high ≤ 4294967295) (h2 : (top - o * high) * 4294967296 + r2 < o * next) (hp : o = p + 1) : guessV top high next r2 = p := by
  unfold guessV guessT
  rw [ho]
  simp [h1, h2]
  omega
theorem guessV_far {top high next r2 o : Nat} (ho : guessO top high = o) (h1 : ¬ top - o * high ≤ 4294967295) : guessV top high next r2 = o := by
  unfold guessV guessT
  rw [ho]
  simp [h1]
theorem guessV_stay {top high next r2 o : Nat} (ho : guessO top high = o) (h2 : ¬ (top - o * high) * 4294967296 + r2 < o * next) : guessV top high next r2 = o := by
  unfold guessV guessT
  rw [ho]
  simp [h2]

/-- Memory is as it was. -/
def Still (w w' : World) : Prop := Below w.heap.size w w' ∧ ∀ g, Others g w w'
theorem still_drewN {a w : World} (h : Still a w) (n : Nat) : Still a (w.drewN n) := ⟨below_drewN h.1 n, h.2⟩
theorem still_refl (w : World) : Still w w := ⟨Below.refl _ _, fun _ => Others.refl _ _⟩

theorem nat_le_atom {a b : Nat} {x y : Int} (h : a ≤ b) (hx : x = (a : Int)) (hy : y = (b : Int)) : x ≤ y := by omega

set_option maxHeartbeats 2000000 in
theorem guess_any (w : World) (A : Option Addr) (n c : Nat) (rs : List Nat) (hr : IsN w A (n + 1) rs) (A' : Option Addr) (c' : Nat) (bs : List Nat) (hx : IsN w A' n bs) (hn : 2 ≤ n) (hm : n ≤ 1000000000) (hh : 0 < lim bs (n - 1)) (q : Nat)
    (hq : guessV (lim rs n * 4294967296 + lim rs (n - 1)) (lim bs (n - 1)) (lim bs (n - 2)) (lim rs (n - 2)) = q) :
    Calls Try.prog 49 #[.slice A (n + 1) c, .slice A' n c'] w fun e w' => e = .returned (.int .u32 (q : Int)) ∧ Still w w' := by
  obtain ⟨b1, o1, rfl, hb1, hc1⟩ := hr.2.2 (by omega)
  obtain ⟨b2, o2, rfl, hb2, hc2⟩ := hx.2.2 (by omega)
  have r0 := hc1 n (by omega)
  have r1 := hc1 (n - 1) (by omega)
  have r2 := hc1 (n - 2) (by omega)
  have x1 := hc2 (n - 1) (by omega)
  have x2 := hc2 (n - 2) (by omega)
  have l0 := lim_lt hr.small n
  have l1 := lim_lt hr.small (n - 1)
  have l2 := lim_lt hr.small (n - 2)
  have m1 := lim_lt hx.small (n - 1)
  have m2 := lim_lt hx.small (n - 2)
  have Hq := Lib.hid hq
  clear hq hr hx hc1 hc2
  obtain ⟨high, hhi⟩ : ∃ h, h = lim bs (n - 1) := ⟨_, rfl⟩
  obtain ⟨next, hne⟩ : ∃ h, h = lim bs (n - 2) := ⟨_, rfl⟩
  obtain ⟨t0, ht0⟩ : ∃ h, h = lim rs n := ⟨_, rfl⟩
  obtain ⟨t1, ht1⟩ : ∃ h, h = lim rs (n - 1) := ⟨_, rfl⟩
  obtain ⟨t2, ht2⟩ : ∃ h, h = lim rs (n - 2) := ⟨_, rfl⟩
  rw [← hhi] at x1 m1 hh Hq
  rw [← hne] at x2 m2 Hq
  rw [← ht0] at r0 l0 Hq
  rw [← ht1] at r1 l1 Hq
  rw [← ht2] at r2 l2 Hq
  clear hhi hne ht0 ht1 ht2
  have htop : bits BinOp.or IntKind.u64 ((t0 : Int) * 4294967296) (t1 : Int) = ((t0 * 4294967296 + t1 : Nat) : Int) := or_hi32 t0 t1 l0 l1
  have htl : t0 * 4294967296 + t1 < 18446744073709551616 := by omega
  obtain ⟨top, htp⟩ : ∃ h, h = t0 * 4294967296 + t1 := ⟨_, rfl⟩
  rw [← htp] at htop htl Hq
  clear htp
  go_enter Try.func49, Try.ntmps49
  go_wp2
  go_quiet (fail)
  have hw := Lib.hid (still_drewN (still_refl w) nq)
  have r0' : (w.drewN nq).cell? ⟨b1, o1 + n, none⟩ = some (.int .u32 (t0 : Int)) := r0
  have r1' : (w.drewN nq).cell? ⟨b1, o1 + (n - 1), none⟩ = some (.int .u32 (t1 : Int)) := r1
  have r2' : (w.drewN nq).cell? ⟨b1, o1 + (n - 2), none⟩ = some (.int .u32 (t2 : Int)) := r2
  clear r0 r1 r2 x1 x2
  generalize w.drewN nq = w2 at *
  go_wp2
  go_quiet (fail)
  replace hw := Lib.hid (still_drewN hw.out nq)
  have r2 : (w2.drewN nq).cell? ⟨b1, o1 + (n - 2), none⟩ = some (.int .u32 (t2 : Int)) := r2'
  clear r0' r1' r2' htop
  generalize w2.drewN nq = w3 at *
  have hom := guessO_mul top high
  have hol := guessO_le top high
  obtain ⟨o, ho⟩ : ∃ o, guessO top high = o := ⟨_, rfl⟩
  have Ho := Lib.hid ho
  rw [ho] at hom hol
  obtain ⟨oh, hoh⟩ : ∃ x, x = o * high := ⟨_, rfl⟩
  obtain ⟨on, hon⟩ : ∃ x, x = o * next := ⟨_, rfl⟩
  have eoh : (o : Int) * (high : Int) = (oh : Int) := by rw [hoh]; exact (Int.natCast_mul _ _).symm
  have eon : (o : Int) * (next : Int) = (on : Int) := by rw [hon]; exact (Int.natCast_mul _ _).symm
  have hon2 : on ≤ 18446744065119617025 := by rw [hon]; exact Nat.mul_le_mul hol (show next ≤ 4294967295 by omega)
  rw [← hoh] at hom
  obtain ⟨left, hleft⟩ : ∃ x, x = top - oh := ⟨_, rfl⟩
  have eleft : (top : Int) - (oh : Int) = (left : Int) := by omega
  have hh1 : ((high : Int) == 0) = false := by simp; omega
  have Hfar : RowKit.Hid (¬ left ≤ 4294967295 → q = o) := fun h => by rw [← Hq.out]; exact guessV_far Ho.out (by rw [← hoh, ← hleft]; exact h)
  have Hstay : RowKit.Hid (¬ left * 4294967296 + t2 < on → q = o) := fun h => by rw [← Hq.out]; exact guessV_stay Ho.out (by rw [← hoh, ← hleft, ← hon]; exact h)
  have Hdec : RowKit.Hid (left ≤ 4294967295 → left * 4294967296 + t2 < on → ∀ p, o = p + 1 → q = p) := fun h1 h2 p hp => by
    rw [← Hq.out]; exact guessV_dec Ho.out (by rw [← hoh, ← hleft]; exact h1) (by rw [← hoh, ← hleft, ← hon]; exact h2) hp
  have hlt : left ≤ top := by omega
  obtain ⟨tq, htq⟩ : ∃ x, x = top / high := ⟨_, rfl⟩
  have etq : (top : Int) / (high : Int) = (tq : Int) := by rw [htq]; simp
  have htq2 : tq ≤ top := by rw [htq]; exact Nat.div_le_self _ _
  have homin : o = min tq 4294967295 := by rw [htq]; exact ho.symm
  clear ho hoh hon hleft htq Hq Ho
  obtain ⟨s, hs⟩ : ∃ x, x = left * 4294967296 + t2 := ⟨_, rfl⟩
  rw [← hs] at Hstay Hdec
  have Hs : RowKit.Hid (left ≤ 4294967295 → bits BinOp.or IntKind.u64 ((left : Int) * 4294967296) (t2 : Int) = (s : Int)) := fun h => by rw [hs]; exact or_hi32 left t2 (by omega) l2
  have Hon0 : RowKit.Hid (s < on → o ≠ 0) := by
    intro h h0
    rw [h0] at eon
    simp at eon
    omega
  clear hs
  by_cases hc : tq ≤ 4294967295
  case' pos =>
    obtain rfl : o = tq := by rw [homin]; exact Nat.min_eq_left hc
    have Hp : RowKit.Hid (s < on → ∃ p : Nat, o = p + 1 ∧ (o : Int) - 1 = (p : Int)) := fun h => ⟨o - 1, by have := Hon0.out h; omega, by have := Hon0.out h; omega⟩
    have ho : (o : Int) = (o : Int) := rfl
  case' neg =>
    obtain rfl : o = 4294967295 := by rw [homin]; exact Nat.min_eq_right (by omega)
    replace eoh : (4294967295 : Int) * (high : Int) = (oh : Int) := eoh
    replace eon : (4294967295 : Int) * (next : Int) = (on : Int) := eon
    have Hp : RowKit.Hid (s < on → ∃ p : Nat, 4294967295 = p + 1 ∧ (4294967295 : Int) - 1 = (p : Int)) := fun h => ⟨4294967294, by omega, by omega⟩
    have ho : (4294967295 : Int) = ((4294967295 : Nat) : Int) := rfl
  all_goals
    clear homin Hon0
    have Hho := Lib.hid ho
    clear ho
    by_cases c1 : left ≤ 4294967295
    · have hor := Hs.out c1
      by_cases c2 : s < on
      · obtain ⟨p, hp1, hp2⟩ := Hp.out c2
        have Hr : RowKit.Hid (q = p) := Hdec.out c1 c2 p hp1
        have Hp1 := Lib.hid hp1
        clear Hdec Hfar Hstay Hp hp1
        go_wp2
        go_ret
        exact ⟨ret_int (by first | (rw [Hr.out]; done) | (rw [Hr.out]; omega)), hw.out⟩
      · have Hr := Lib.hid (Hstay.out c2)
        have c3 : on ≤ s := by omega
        clear Hdec Hfar Hstay Hp c2
        go_wp2
        go_ret
        exact ⟨ret_int (by first | (rw [Hr.out]; done) | (rw [Hr.out]; omega)), hw.out⟩
    · have Hr := Lib.hid (Hfar.out c1)
      have c3 : 4294967295 < left := by omega
      clear Hdec Hfar Hstay Hp c1
      go_wp2
      go_ret
      exact ⟨ret_int (by first | (rw [Hr.out]; done) | (rw [Hr.out]; omega)), hw.out⟩

set_option maxHeartbeats 1000000 in
theorem takeOut_any (w0 w : World) (hb : Below w0.heap.size w0 w) (g m cs : Nat) (rs : List Nat) (how : OwnN w w0.heap.size (some ⟨g, 0, none⟩) (m + 1) cs rs)
    (A : Option Addr) (c : Nat) (bs : List Nat) (hx : IsN w0 A m bs) (hm2 : 2 ≤ m) (hm : m ≤ 1000000000) (hh : 2147483648 ≤ lim bs (m - 1)) (hlt : val rs < val bs * 4294967296) (q : Nat) (hq : val rs / val bs = q) :
    Calls Try.prog 48 #[.slice (some ⟨g, 0, none⟩) (m + 1) cs, .slice A m c] w fun e w' => e = .returned (.int .u32 (q : Int)) ∧
      (∃ zs, OwnN w' w0.heap.size (some ⟨g, 0, none⟩) (m + 1) cs zs ∧ val (zs.take m) = val rs % val bs) ∧ Below w0.heap.size w0 w' ∧ Others g w w' := by
  have hrl := how.len
  have hbl := hx.len
  obtain ⟨G, hG⟩ : ∃ G, guessV (lim rs m * 4294967296 + lim rs (m - 1)) (lim bs (m - 1)) (lim bs (m - 2)) (lim rs (m - 2)) = G := ⟨_, rfl⟩
  obtain ⟨g1, g2, g3⟩ := guess_ok how.small hx.small hm2 hrl hbl hh hlt hG
  rw [hq] at g1 g2
  have hR : val rs = val (rs.take m) + 4294967296 ^ m * lim rs m := by
    have := val_take_lim rs m
    rwa [List.take_of_length_le (by rw [hrl]; exact Nat.le_refl _)] at this
  have hdm := Nat.div_add_mod (val rs) (val bs)
  rw [hq] at hdm
  have hb0 : 0 < val bs := by
    rcases Nat.eq_zero_or_pos (val bs) with h | h
    · rw [h] at hlt; omega
    · exact h
  have hml := Nat.mod_lt (val rs) hb0
  have hbP := val_lt hx.small
  rw [hbl] at hbP
  have hr : val rs = q * val bs + val rs % val bs := by rw [Nat.mul_comm]; exact hdm.symm
  have HR := Lib.hid hR
  have Hr := Lib.hid hr
  have HrP := Lib.hid (Nat.lt_trans hml hbP)
  have Hml := Lib.hid hml
  have HG := Lib.hid hG
  have hi1 := how.isN
  have hi2 := hx.below hb
  have Hhow := Lib.hid how
  have Hb := Lib.hid hb
  have Hx := Lib.hid hx
  have hG4 : G < 4294967296 := by omega
  clear hR hdm hq hr hml hbP hG hrl hbl how hb hlt
  go_enter Try.func48, Try.ntmps48
  go_wp2_with fail
  refine (guess_any w (some ⟨g, 0, none⟩) m cs rs hi1 A c bs hi2 hm2 hm (by omega) G HG.out).mono ?_
  rintro e w1 ⟨rfl, hst⟩
  have Hhow1 := Lib.hid (Hhow.out.below hst.1 (Nat.le_refl _))
  have Hb1 := Lib.hid (Hb.out.trans (hst.1.mono Hb.out.size))
  have Ho1 := Lib.hid (hst.2 g)
  clear hst Hhow Hb hi1 hi2
  by_cases hc : G = q
  · subst hc
    have Hf : RowKit.Hid (decide (val rs < G * val bs) = false) := by
      show _ = _
      rw [decide_eq_false_iff_not]; have := Hr.out; omega
    go_wp2_with fail
    refine (lessen_any w0 w1 Hb1.out g m cs rs Hhow1.out A c bs Hx.out G _ rfl hG4 hm false Hf.out).mono ?_
    rintro e w2 ⟨rfl, ⟨zs, tt, hz, hv⟩, hb2, ho2⟩
    have Hz := Lib.hid hz
    have hzt := val_lt (small_take hz.small m)
    rw [List.length_take, hz.len, Nat.min_eq_left (by omega)] at hzt
    have Hv := Lib.hid (less_fits hv hzt HR.out Hr.out HrP.out)
    have Hb2 := Lib.hid hb2
    have Ho2 := Lib.hid (show Others g w w2 from fun k hk => (ho2 k hk).trans (Ho1.out k hk))
    clear hz hzt hv hb2 ho2
    go_wp2
    go_ret
    exact ⟨rfl, ⟨zs, Hz.out, Hv.out⟩, Hb2.out, Ho2.out⟩
  · obtain rfl : G = q + 1 := by omega
    have Hf : RowKit.Hid (decide (val rs < (q + 1) * val bs) = true) := by
      show _ = _
      rw [decide_eq_true_iff, Nat.add_mul, Nat.one_mul]; have := Hr.out; have := Hml.out; omega
    go_wp2_with fail
    refine (lessen_any w0 w1 Hb1.out g m cs rs Hhow1.out A c bs Hx.out (q + 1) _ (by omega) hG4 hm true Hf.out).mono ?_
    rintro e w2 ⟨rfl, ⟨zs, tt, hz, hv⟩, hb2, ho2⟩
    have hv' := hv
    rw [Nat.add_mul, Nat.one_mul] at hv'
    have Hv := Lib.hid hv'
    have Ho2 := Lib.hid (show Others g w w2 from fun k hk => (ho2 k hk).trans (Ho1.out k hk))
    clear hv hv' ho2
    go_wp2_with fail
    refine (raise_any w0 w2 hb2 g m cs zs hz A c bs Hx.out hm).mono ?_
    rintro e w3 ⟨rfl, ⟨ys, cc, hy, hv2⟩, hb3, ho3⟩
    have hyt := val_lt (small_take hy.small m)
    rw [List.length_take, hy.len, Nat.min_eq_left (by omega)] at hyt
    have Hv2 := Lib.hid (less_back Hv.out HR.out Hr.out HrP.out hv2 hyt)
    have Hy := Lib.hid hy
    have Hb3 := Lib.hid hb3
    have Ho3 := Lib.hid (show Others g w w3 from fun k hk => (ho3 k hk).trans (Ho2.out k hk))
    clear hz hv2 hy hb2 hb3 ho3 hyt
    go_wp2
    go_ret
    exact ⟨ret_int (by omega), ⟨ys, Hy.out, Hv2.out⟩, Hb3.out, Ho3.out⟩

end Go.Proofs.Ytahogponokafcaa
