/- Part 6 of the texts that the statements of this seat lean on: mathematics, and what functions answer, as contracts over memory; each part says its own conditions. -/
import Derived.Test.YtmifgblbicnimaaM5
import Derived.Deep.RegionLaw
import Derived.Deep.RegionWith
import Derived.Deep.RegionHeld3
/- What package quo's divide answers, as a contract over memory: the quotient in its shortest limbs, and what is left. Conditions: both read as limbs; the divisor has two limbs or more, its highest bit set, and is not longer than the number; at most 10^8 limbs. -/
namespace Go.Proofs.Ytmifgblbicnimaa
open Go.RowKit Limb
set_option linter.unusedVariables false

/-- copy of limbs into a row of the call's own, as one step of a region that draws its order. -/
theorem step_copy_nat {w : World} {ops : Array Oper} {o : Oper} {a : Act} {K : Act → World → Prop} {Q : Exit → Act → World → Prop} {E : Prop} (hgd : o.guard = none) (d s : Operand)
    (ho : o.op = .call { callee := .builtin .copy, args := #[d, s], argTypes := #[23, 23] })
    (g off dLen dCap : Nat) (sp : Option Addr) (sLen sCap : Nat) (hd : a.eval d = .slice (some ⟨g, off, none⟩) dLen dCap) (hs : a.eval s = .slice sp sLen sCap)
    (B n : Nat) (zs : List Nat) (hown : Hid (OwnN w B (some ⟨g, 0, none⟩) n n zs)) (ys : List Nat) (hy : Hid (IsN w sp sLen ys)) (hlen : Hid (0 < sLen ∧ sLen ≤ dLen ∧ off + sLen ≤ n))
    (h : ∀ w', Hid (OwnN w' B (some ⟨g, 0, none⟩) n n (lay zs off ys)) → Hid (Others g w w') → Hid (∀ w0, Below B w0 w → Below B w0 w') → K (a.put o.dst (goInt sLen)) w') :
    if Region.wanted o (yielded ops a.tmps) = true then Oper.wp Try.prog o a w K Q else E := by
  have hw : Region.wanted o (yielded ops a.tmps) = true := by simp [Region.wanted, hgd]
  rw [if_pos hw]
  have hyl := hy.out.len
  obtain ⟨h0, h1, h2⟩ := hlen.out
  obtain ⟨b, ob, rfl, hb1, hcell⟩ := hy.out.2.2 (by omega)
  have hzl := hown.out.len
  rcases hown.out.1.2 with ⟨hv, _⟩ | ⟨g2, cap, cur, hv, hg, hh, h3, h4, h5, h6⟩
  · cases hv
  · injection hv with e1 e2 e3
    injection e1 with e1
    injection e1 with e1
    subst e1
    subst e3
    rw [Nat.mul_one] at h5 h6
    have hcur : cur.toList = zs.map limV := by rw [← h6, List.take_of_length_le (by simp [h5])]
    have hb : ∀ w0, Below B w0 w → Below B w0 (w.setRow g (cur.toList.take off ++ ((ys.map limV) ++ cur.toList.drop (off + (ys.map limV).length))).toArray) := fun w0 hb => below_setRow hb hg _
    have ho' : Others g w (w.setRow g (cur.toList.take off ++ ((ys.map limV) ++ cur.toList.drop (off + (ys.map limV).length))).toArray) := fun k hk => setRow_other w g k _ hk
    have hn : OwnN (w.setRow g (cur.toList.take off ++ ((ys.map limV) ++ cur.toList.drop (off + (ys.map limV).length))).toArray) B (some ⟨g, 0, none⟩) n n (lay zs off ys) := by
      have hl2 : (lay zs off ys).length = n := by rw [lay_length (by omega), hzl]
      refine ⟨⟨by simp [hl2], .inr ⟨g, n, _, rfl, hg, setRow_heap w g _ _ _ _ hh, Nat.le_refl _, h4, ?_, ?_⟩⟩, lay_small hown.out.small hy.out.small⟩
      · rw [hcur]; simp; omega
      · rw [hcur, List.take_of_length_le (by simp; omega)]
        simp [lay, List.map_append, List.map_take, List.map_drop]
    have e2 : goInt (ys.map limV).length = goInt sLen := by rw [List.length_map, hyl]
    have hrun := run_copy_row (P := Try.prog) w 23 23 o.type 62 g off dLen dCap ⟨b, ob, none⟩ sLen sCap cur 62 (ys.map limV) Try.underlying23 u32_size hh (by rw [List.length_map, hyl]; exact (Nat.min_eq_left h1).symm) ?_ ?_ (oneCell_u32 ys)
    · unfold Oper.wp
      simp only [execOp, ho, resolve, invoke, builtin, Sem.run_bind, Sem.run_pure, Result.andThen_ok, List.map_toArray, List.map_cons, List.map_nil, hd, hs, hrun]
      rw [e2, List.append_assoc]
      exact h _ hn ho' hb
    · intro j v hv
      obtain ⟨hj, rfl⟩ := map_u32_get hv
      have e : (⟨b, ob, none⟩ : Addr).add j = ⟨b, ob + j, none⟩ := by unfold Addr.add; split <;> simp_all
      rw [e]
      exact hcell j (by omega)
    · rw [h5]; simp; omega

theorem lay_start (xs : List Nat) (m : Nat) (h : xs.length + 1 = m) : lay (List.replicate (m + 1) 0) 0 xs = xs ++ [0, 0] := by
  simp only [lay, List.take_zero, List.nil_append, Nat.zero_add, List.drop_replicate]
  rw [show m + 1 - xs.length = 2 by omega]
  rfl

/-- Moved up by one limb, with another one below. -/
theorem lay_up (rs : List Nat) (m x : Nat) (h : rs.length = m + 1) : (lay rs 1 (rs.take m)).set 0 x = x :: rs.take m := by
  cases rs with
  | nil => simp at h
  | cons r rs => simp [lay]; simp at h; omega

set_option maxHeartbeats 2000000 in
theorem divide_any (A : Option Addr) (n c : Nat) (xs : List Nat) (A' : Option Addr) (m c' : Nat) (ys : List Nat) (w : World) (hx : IsN w A n xs) (hy : IsN w A' m ys) (hn : n ≤ 100000000) (hc : n ≤ c) (hm2 : 2 ≤ m) (hmn : m ≤ n) (hh : 2147483648 ≤ lim ys (m - 1)) :
    Calls Try.prog 86 #[.slice A n c, .slice A' m c'] w fun e w' => ∃ A1 n1 c1 A2 c2 zs, e = .returned (.tuple #[.slice A1 n1 c1, .slice A2 m c2]) ∧ OwnN w' w.heap.size A1 n1 c1 (limbs (val xs / val ys)) ∧
      (OwnN w' w.heap.size A2 m c2 zs ∧ val zs = val xs % val ys) ∧ Below w.heap.size w w' := by
  obtain ⟨s, hs⟩ : ∃ s, s = n - m + 1 := ⟨_, rfl⟩
  have es : (n : Int) - (m : Int) + 1 = (s : Int) := by omega
  have hs1 : s + m = n + 1 := by omega
  clear hs
  obtain ⟨b1, o1, rfl, hb1, hc1⟩ := hx.2.2 (by omega)
  have hsrc : IsN w (some ⟨b1, o1 + s, none⟩) (m - 1) (xs.drop s) := by
    refine ⟨by rw [List.length_drop, hx.len]; omega, small_drop hx.small _, fun _ => ⟨b1, o1 + s, rfl, hb1, fun j hj => ?_⟩⟩
    rw [lim_drop, Nat.add_assoc]
    exact hc1 (s + j) (by omega)
  have e1 : n - s = m - 1 := by omega
  have hsn : s < n := by omega
  have hmk1 := run_made ((m : Int) + 1) (m + 1) (by omega) (by omega)
  have hmk2 := run_made (s : Int) s rfl (by omega)
  have b2 := below_new w (.cells (madeCells #[.int .u32 0] (m + 1)) 62)
  have Hs := Lib.hid (own_made w (m + 1) (by omega))
  have Hu := Lib.hid (hsrc.below b2)
  have Hb2 := Lib.hid b2
  have Hlen2 : RowKit.Hid (m - 1 ≤ m + 1 ∧ 0 + (m - 1) ≤ m + 1) := ⟨by omega, by omega⟩
  have Hst := Lib.hid (DivInv.start hx.small (by rw [hx.len]; exact hs1) hm2 hy.len (by omega : 0 < lim ys (m - 1)))
  have Hlay := Lib.hid (lay_start (xs.drop s) m (by rw [hsrc.len]; omega))
  have Hxl := Lib.hid hx.len
  have hsx := hx.small
  clear b2 hsrc
  go_enter Try.func86, Try.ntmps86
  go_wp2_with (with_reducible refine wpList_copy_nat rfl (.tmp 20) (.tmp 23) rfl w.heap.size 0 (m + 1) (m + 1) (some ⟨b1, o1 + s, none⟩) (m - 1) (c - s) rfl rfl w.heap.size (m + 1) (List.replicate (m + 1) 0) Hs (xs.drop s) Hu Hlen2 ?_)
  intro w3 Ho Hoth Hbel
  rw [Hlay.out] at Ho
  have Hb3 := Lib.hid (Hbel.out w Hb2.out)
  clear Hs Hu Hb2 Hlen2 Hoth Hbel hmk1 Hlay
  have b4 := below_new w3 (.cells (madeCells #[.int .u32 0] s) 62)
  have Hq := Lib.hid ((own_made w3 s (by omega)).mono Hb3.out.size)
  have Hr := Lib.hid (Ho.out.below b4 (Nat.le_refl _))
  have Hb4 := Lib.hid (below_two Hb3.out b4)
  obtain ⟨g2, hg2⟩ : ∃ g2, g2 = w3.heap.size := ⟨_, rfl⟩
  have hgg : w.heap.size < g2 := by
    obtain ⟨g', e, _, h⟩ := Ho.out.addr (by omega)
    injection e with e; injection e with e; subst e; omega
  have Hg2 := Lib.hid hg2
  rw [← hg2] at Hq
  clear b4 Ho Hb3 hg2
  go_wp2
  rw [← Hg2.out]
  have HR := Hr
  go_loopw [9] (fun i wr => ∃ (k : Nat) (rs qs : List Nat), k ≤ s ∧ i = .int .i64 ((k : Int) - 1) ∧ RowKit.Hid (DivInv xs ys rs qs m k) ∧ RowKit.Hid (OwnN wr w.heap.size (some ⟨w.heap.size, 0, none⟩) (m + 1) (m + 1) rs) ∧
    RowKit.Hid (OwnN wr w.heap.size (some ⟨g2, 0, none⟩) s s qs) ∧ RowKit.Hid (Below w.heap.size w wr)) (fun i _ => (intOf i + 1).toNat)
  case atStart => exact ⟨s, _, _, Nat.le_refl _, rfl, Hst, Hr, Hq, Hb4⟩
  case round =>
    clear Hst Hr Hq Hb4 HR hmk2
    obtain ⟨k, rs, qs, hk, rfl, Hinv, Hr, Hq, Hb⟩ := hrel
    by_cases hk0 : k = 0
    · subst hk0
      have hd := Hinv.out.done
      have Hd1 := Lib.hid hd.1
      have hr0 := Hr.out.take (m := m) (by omega)
      have Hr0 := Lib.hid hr0
      have Hd2 := Lib.hid hd.2
      have hz := Hq.out.isN
      have hsz := Hq.out.small
      have Hbs := Lib.hid Hb.out.size
      clear hd hr0 Hinv Hr
      have hle2 : (m : Int) ≤ (m : Int) + 1 := by omega
      go_wp2
      go_region_with (go_at_call 63; refine (trim_any (some ⟨g2, 0, none⟩) s s qs _ (hz.below (Below.refl _ _).drew) (Nat.le_refl _) (by omega)).mono ?_; rintro e w5 ⟨A1, n1, c1, rfl, how, hb5⟩)
      all_goals
        have How : RowKit.Hid (OwnN w5 w.heap.size A1 n1 c1 (limbs (val xs / val ys))) := by
          rw [trim_eq_limbs hsz, Hd1.out] at how
          exact how.mono Hbs.out
        have Hr9 : RowKit.Hid (OwnN w5 w.heap.size (some ⟨w.heap.size, 0, none⟩) m (m + 1) (rs.take m)) := Hr0.out.below (C := wr.heap.size) ((Below.refl wr.heap.size wr).drew.trans hb5) (Nat.le_refl _)
        have HW : RowKit.Hid (Below w.heap.size w w5) := Hb.out.trans (((Below.refl wr.heap.size wr).drew.trans hb5).mono Hbs.out)
        clear how hb5 hz hsz Hq Hb Hr0
        go_wp2
        go_ret2
        exact ⟨_, _, _, _, _, rs.take m, rfl, How.out, ⟨Hr9.out, Hd2.out⟩, HW.out⟩
    · obtain ⟨j, rfl⟩ : ∃ j, k = j + 1 := ⟨k - 1, by omega⟩
      have ej : ((j + 1 : Nat) : Int) - 1 = (j : Int) := by omega
      rw [ej]
      have Hr1 : RowKit.Hid (OwnN wr.drew w.heap.size (some ⟨w.heap.size, 0, none⟩) (m + 1) (m + 1) rs) := Hr.out.below (C := _) (Below.refl _ _).drew (Nat.le_refl _)
      have Hq1 : RowKit.Hid (OwnN wr.drew w.heap.size (some ⟨g2, 0, none⟩) s s qs) := Hq.out.below (C := _) (Below.refl _ _).drew (Nat.le_refl _)
      have Hb1 : RowKit.Hid (Below w.heap.size w wr.drew) := Hb.out.drew
      have Hsrc := Lib.hid ((Hr1.out.isN).take (m := m) (by omega))
      have Hl2 : RowKit.Hid (0 < m ∧ m ≤ m ∧ 1 + m ≤ m + 1) := ⟨by omega, by omega, by omega⟩
      have Hrl := Lib.hid Hr.out.len
      have hle : 1 ≤ (m : Int) + 1 := by omega
      have hle2 : (m : Int) ≤ (m : Int) + 1 := by omega
      have hm0 : m ≠ 0 := by omega
      clear ej Hr Hq Hb
      go_wp2
      go_region_law ((refine step_copy_nat rfl (.tmp 34) (.tmp 37) rfl w.heap.size 1 m m (some ⟨w.heap.size, 0, none⟩) m (m + 1) (by simp [Act.eval, Act.put]) (by simp [Act.eval, Act.put]) w.heap.size (m + 1) rs Hr1 (rs.take m) Hsrc Hl2 ?_; intro w4 Hr4 Ho4 Hbel4))
      all_goals
        have Hb4 := Lib.hid (Hbel4.out w Hb1.out)
        have Hq4 : RowKit.Hid (OwnN w4 w.heap.size (some ⟨g2, 0, none⟩) s s qs) := Hq1.out.others Ho4.out (by intro b o t e; injection e with e; injection e with e; omega)
        have l1 := lim_lt hsx j
        have hcx : w4.cell? ⟨b1, o1 + j, none⟩ = some (.int .u32 ((lim xs j : Nat) : Int)) := (Hb4.out.cell (p := ⟨b1, o1 + j, none⟩) hb1).trans (hc1 j (by omega))
        have f4 := Hr4.out.1.frozenAt 0
        have c4 := Hr4.out.cell (k := 0) (by omega)
        have Hset : RowKit.Hid (OwnN (w4.setCell ⟨w.heap.size, 0, none⟩ (.int .u32 ((lim xs j : Nat) : Int))) w.heap.size (some ⟨w.heap.size, 0, none⟩) (m + 1) (m + 1) (lim xs j :: rs.take m)) := by
          have h := Hr4.out.set 0 l1
          rw [lay_up rs m _ Hrl.out] at h
          exact h
        have Hb5 : RowKit.Hid (Below w.heap.size w (w4.setCell ⟨w.heap.size, 0, none⟩ (.int .u32 ((lim xs j : Nat) : Int)))) := Hb4.out.setCell (by exact Nat.le_refl _) _
        have Hq5 : RowKit.Hid (OwnN (w4.setCell ⟨w.heap.size, 0, none⟩ (.int .u32 ((lim xs j : Nat) : Int))) w.heap.size (some ⟨g2, 0, none⟩) s s qs) := Hq4.out.others ((Others.refl w.heap.size w4).setCell 0 _) (by intro b o t e; injection e with e; injection e with e; omega)
        have hlt := Hinv.out.lt l1
        have hb0 : 0 < val ys := Nat.lt_of_le_of_lt (Nat.zero_le _) Hinv.out.2
        obtain ⟨q, hq⟩ : ∃ q, val (lim xs j :: rs.take m) / val ys = q := ⟨_, rfl⟩
        have hq4 : q < 4294967296 := by rw [← hq, Nat.div_lt_iff_lt_mul hb0, Nat.mul_comm]; exact hlt
        have Hlt := Lib.hid hlt
        have Hqe := Lib.hid hq
        have hm9 : m ≤ 1000000000 := by omega
        clear Ho4 Hbel4 Hb1 Hq1 Hr1 Hsrc Hl2 Hb4 Hq4 Hr4 hlt hq hb0
        go_wp2_with fail
        refine (takeOut_any w _ Hb5.out w.heap.size m (m + 1) _ Hset.out A' c' ys hy hm2 hm9 hh Hlt.out q Hqe.out).mono ?_
        rintro e w6 ⟨rfl, ⟨zs, hz, hv⟩, hb6, ho6⟩
        have Hq6 : RowKit.Hid (OwnN w6 w.heap.size (some ⟨g2, 0, none⟩) s s qs) := Hq5.out.others ho6 (by intro b o t e; injection e with e; injection e with e; omega)
        have f6 := Hq6.out.1.frozenAt j
        have c6 := Hq6.out.cell (k := j) (by omega)
        have Hq7 := Lib.hid (Hq6.out.set j hq4)
        have Hr7 : RowKit.Hid (OwnN (w6.setCell ⟨g2, j, none⟩ (.int .u32 (q : Int))) w.heap.size (some ⟨w.heap.size, 0, none⟩) (m + 1) (m + 1) zs) := hz.others ((Others.refl g2 w6).setCell j _) (by intro b o t e; injection e with e; injection e with e; omega)
        have Hb7 : RowKit.Hid (Below w.heap.size w (w6.setCell ⟨g2, j, none⟩ (.int .u32 (q : Int)))) := hb6.setCell (by exact Nat.le_of_lt hgg) _
        have Hst : RowKit.Hid (DivInv xs ys zs (qs.set j q) m j) := by
          have h := Hinv.out.step (by rw [Hxl.out]; omega) (by rw [Hq6.out.len]; omega) hv
          rw [Hqe.out] at h
          exact h
        clear hz hv hb6 ho6 Hq6 Hq5 Hb5 Hset Hlt Hqe Hinv
        go_wp2
        go_roundw
        case rel => exact ⟨j, zs, qs.set j q, by omega, by go_num, Hst, Hr7, Hq7, Hb7⟩
        case measure => simp [intOf] <;> omega

end Go.Proofs.Ytmifgblbicnimaa

/- What package quo's Rem answers, as contracts over memory: the quotient and what is left, in their shortest limbs, or nothing if the divisor is 0. Conditions: both lists read as limbs, of at most 10^5 of them. -/
namespace Go.Proofs.Ytmifgblbicnimaa.Limb

theorem top_limb {b k : Nat} (hk : (limbs b).length = k + 1) : lim (limbs b) k = b / 4294967296 ^ k ∧ 1 ≤ b / 4294967296 ^ k ∧ b / 4294967296 ^ k < 4294967296 := by
  have hb : b ≠ 0 := by intro h; rw [h, limbs_zero] at hk; simp at hk
  have h1 := length_limbs_pred hb
  rw [hk, Nat.add_sub_cancel] at h1
  have h2 := val_lt (small_limbs b)
  rw [val_limbs, hk, Nat.pow_succ] at h2
  have h3 := lim_eq_div (limbs b) (small_limbs b) k
  rw [val_limbs] at h3
  have hP : 0 < 4294967296 ^ k := Nat.pow_pos (by decide)
  have h4 : b / 4294967296 ^ k < 4294967296 := by rw [Nat.div_lt_iff_lt_mul hP, Nat.mul_comm]; exact h2
  rw [Nat.mod_eq_of_lt h4] at h3
  exact ⟨h3.symm, (Nat.le_div_iff_mul_le hP).2 (by omega), h4⟩

/-- Moved up till the highest bit is set a number has as many limbs. -/
theorem norm_ok {b k f : Nat} (hk : (limbs b).length = k + 1) (hf : f + blen (lim (limbs b) k) = 32) : (limbs (b * 2 ^ f)).length = k + 1 ∧ 2147483648 ≤ lim (limbs (b * 2 ^ f)) k := by
  obtain ⟨e, h1, h2⟩ := top_limb hk
  rw [e] at hf
  have hP : 0 < 4294967296 ^ k := Nat.pow_pos (by decide)
  have h3 := Nat.div_mul_le_self b (4294967296 ^ k)
  have h4 := Nat.lt_mul_div_succ b hP
  generalize b / 4294967296 ^ k = t at *
  obtain ⟨s1, s2, s3⟩ := blen_spec (n := t) (by omega)
  obtain ⟨u, hu⟩ : ∃ u, blen t = u + 1 := ⟨blen t - 1, by omega⟩
  rw [hu] at s1 s2 hf
  rw [Nat.add_sub_cancel] at s1
  have e1 : 2 ^ u * 2 ^ f = 2147483648 := by rw [← Nat.pow_add, show u + f = 31 by omega]
  have e2 : 2 ^ (u + 1) * 2 ^ f = 4294967296 := by rw [← Nat.pow_add, show u + 1 + f = 32 by omega]
  have l1 : 2147483648 * 4294967296 ^ k ≤ b * 2 ^ f := by
    rw [← e1, Nat.mul_right_comm]
    exact Nat.mul_le_mul_right _ (Nat.le_trans (Nat.mul_le_mul_right _ s1) h3)
  have l2 : b * 2 ^ f < 4294967296 ^ (k + 1) := by
    rw [Nat.pow_succ]
    have h5 : b < 4294967296 ^ k * 2 ^ (u + 1) := Nat.lt_of_lt_of_le h4 (Nat.mul_le_mul_left _ s2)
    have h6 := Nat.mul_lt_mul_of_pos_right h5 (Nat.two_pow_pos f)
    rwa [Nat.mul_assoc, e2] at h6
  have hlen : (limbs (b * 2 ^ f)).length = k + 1 := by
    have a1 := length_limbs_le l2
    have a2 := lt_length_limbs (n := b * 2 ^ f) (k := k) (by have : 1 * 4294967296 ^ k ≤ 2147483648 * 4294967296 ^ k := Nat.mul_le_mul_right _ (by decide); omega)
    omega
  obtain ⟨e3, _, _⟩ := top_limb hlen
  refine ⟨hlen, ?_⟩
  rw [e3]
  exact (Nat.le_div_iff_mul_le hP).2 l1

theorem rem_back {a b f : Nat} : a * 2 ^ f % (b * 2 ^ f) / 2 ^ f = a % b := by
  rw [Nat.mul_mod_mul_right, Nat.mul_div_cancel _ (Nat.two_pow_pos f)]
theorem quo_same {a b f : Nat} : a * 2 ^ f / (b * 2 ^ f) = a / b := Nat.mul_div_mul_right _ _ (Nat.two_pow_pos f)

end Go.Proofs.Ytmifgblbicnimaa.Limb
namespace Go.Proofs.Ytmifgblbicnimaa
open Go.RowKit Limb
set_option linter.unusedVariables false

theorem lead_any (x : Nat) (w : World) (h1 : x < 4294967296) (f : Nat) (hf : f + blen x = 32) :
    Calls Try.prog 85 #[.int .u32 (x : Int)] w fun e w' => e = .returned (.int .i64 (f : Int)) ∧ w = w' := by
  have h2 : 32 - ((blen x : Nat) : Int) = (f : Int) := by omega
  have hb : blen x ≤ 32 := by omega
  have hL := len32_any (x : Int) w (by omega) (by omega)
  rw [Int.toNat_natCast] at hL
  obtain ⟨y, hy⟩ : ∃ y, y = blen x := ⟨_, rfl⟩
  rw [← hy] at h2 hb hL
  clear hf hy
  go_enter Try.func85, Try.ntmps85
  go_wp2_with fail
  refine hL.mono ?_
  rintro e w1 ⟨rfl, rfl⟩
  go_wp2
  go_ret
  exact ⟨rfl, rfl⟩

set_option maxHeartbeats 1000000 in
theorem quoRem_no {A A' : Option Addr} {n c n' c' : Nat} {xs ys : List Nat} {a b L L' : Nat} {w : World} (hx : NN w A n c xs a L) (hy : NN w A' n' c' ys b L') (h1 : L ≤ 100000) (h2 : L' ≤ 100000) (hb : b = 0) :
    Calls Try.prog 65 #[.slice A n c, .slice A' n' c'] w fun e w' => ∃ A1 c1 A2 c2, e = .returned (.tuple #[.slice A1 0 c1, .slice A2 0 c2, .bool false]) ∧ Below w.heap.size w w' := by
  subst hb
  go_enter Try.func65, Try.ntmps65
  go_wp2_with fail
  refine (trim_c hx (by omega)).mono ?_
  rintro e w1 ⟨A1, n1, c1, rfl, hx1, bn⟩
  have hy1 := hy.below bn
  have bw := bn
  clear hx hy bn
  go_wp2_with fail
  refine (trim_c hy1 (by omega)).mono ?_
  rintro e w2 ⟨A2, n2, c2, rfl, hy2, bn⟩
  have hn2 : n2 = 0 := by have := hy2.isN.len; rw [limbs_zero] at this; exact this.symm
  subst hn2
  have HW := Lib.hid (below_two bw bn)
  clear bn bw hy1 hy2 hx1
  go_wp2
  go_ret3
  exact ⟨none, 0, none, 0, rfl, HW.out⟩

set_option maxHeartbeats 2000000 in
theorem quoRem_yes {A A' : Option Addr} {n c n' c' : Nat} {xs ys : List Nat} {a b L L' : Nat} {w : World} (hx : NN w A n c xs a L) (hy : NN w A' n' c' ys b L') (h1 : L ≤ 100000) (h2 : L' ≤ 100000) (hb : b ≠ 0) :
    Calls Try.prog 65 #[.slice A n c, .slice A' n' c'] w fun e w' => ∃ A1 n1 c1 A2 n2 c2, e = .returned (.tuple #[.slice A1 n1 c1, .slice A2 n2 c2, .bool true]) ∧ NN w' A1 n1 c1 (limbs (a / b)) (a / b) L ∧ NN w' A2 n2 c2 (limbs (a % b)) (a % b) L' ∧ Below w.heap.size w w' := by
  have Hl := Lib.hid (Nat.lt_trans (Nat.mod_lt a (Nat.pos_of_ne_zero hb)) (lt_pow hy))
  have Hla := Lib.hid (Nat.lt_of_le_of_lt (Nat.div_le_self a b) (lt_pow hx))
  go_enter Try.func65, Try.ntmps65
  go_wp2_with fail
  refine (trim_c hx (by omega)).mono ?_
  rintro e w1 ⟨A1, n1, c1, rfl, hx1, bn⟩
  have hy1 := hy.below bn
  have bw := bn
  clear hx hy bn
  go_wp2_with fail
  refine (trim_c hy1 (by omega)).mono ?_
  rintro e w2 ⟨A2, n2, c2, rfl, hy2, bn⟩
  replace hx1 := hx1.below bn
  replace bw := below_two bw bn
  clear bn hy1
  have hyl := hy2.isN.len
  have hxl := hx1.isN.len
  have hn2 : 0 < n2 := by rw [limbs_pos hb] at hyl; simp at hyl; omega
  have hn2e : ((n2 : Int) == 0) = false := by simp; omega
  have hle2 := hy2.le
  have hle1 := hx1.le
  have Hyl := Lib.hid hyl
  have Hxl := Lib.hid hxl
  have Hb0 := Lib.hid hb
  clear hyl hxl hb
  by_cases hlt : a < b
  · have e1 : RowKit.Hid (a / b = 0) := Nat.div_eq_of_lt hlt
    have e2 : RowKit.Hid (a % b = a) := Nat.mod_eq_of_lt hlt
    have hc := cmpI_lt hlt
    have Hc := Lib.hid hc
    have HA := Lib.hid hx1
    have Hlt := Lib.hid hlt
    clear hlt hc
    go_wp2_with fail
    refine (cmp_c HA.out hy2 (by omega) (by omega) (-1) Hc.out).mono ?_
    rintro e w3 ⟨rfl, bn⟩
    have HR := Lib.hid (HA.out.below bn)
    have HW := Lib.hid (below_two bw bn)
    clear bn bw hy2 hx1 HA
    go_wp2
    go_ret3
    refine ⟨none, 0, 0, _, _, _, rfl, ?_, ?_, HW.out⟩
    · rw [e1.out, limbs_zero]; exact ⟨IsN.nil _ _, rfl, Nat.zero_le _, Nat.zero_le _⟩
    · rw [e2.out]; exact HR.out.relax (by have := Hl.out; rwa [e2.out] at this)
  · obtain ⟨v, hv, hv0⟩ : ∃ v, cmpI a b = v ∧ 0 ≤ v := by
      rcases Nat.lt_trichotomy a b with h | h | h
      · exact absurd h hlt
      · exact ⟨0, by rw [h]; exact cmpI_eq _, by omega⟩
      · exact ⟨1, cmpI_gt h, by omega⟩
    have Hv := Lib.hid hv
    have Hge := Lib.hid (Nat.le_of_not_lt hlt)
    clear hv hlt
    go_wp2_with fail
    refine (cmp_c hx1 hy2 (by omega) (by omega) v Hv.out).mono ?_
    rintro e w3 ⟨rfl, bn⟩
    replace hx1 := hx1.below bn
    replace hy2 := hy2.below bn
    replace bw := below_two bw bn
    clear bn Hv
    obtain ⟨b2, o2, rfl, hb2, hc2⟩ := hy2.isN.2.2 hn2
    by_cases hn1 : n2 = 1
    · subst hn1
      have el : limbs b = [b] ∧ b < 4294967296 := by
        have h := Hyl.out
        rw [limbs_pos Hb0.out] at h ⊢
        simp only [List.length_cons] at h
        have h0 : limbs (b / 4294967296) = [] := List.eq_nil_of_length_eq_zero (by omega)
        have h3 := limbs_eq_nil.1 h0
        have h4 : b < 4294967296 := by omega
        rw [h0, Nat.mod_eq_of_lt h4]
        exact ⟨rfl, h4⟩
      have k3 := hc2 0 (by omega)
      rw [el.1] at k3
      have e1 : lim [b] 0 = b := rfl
      rw [e1, Nat.add_zero] at k3
      have hb4 := el.2
      clear el e1 hc2 hn2e
      go_wp2_with fail
      refine (quoSmall_yes hx1 h1 b _ rfl hb4 Hb0.out).mono ?_
      rintro e w4 ⟨A4, n4, c4, rfl, hq, bn⟩
      have Hml := Lib.hid (Nat.mod_lt a (Nat.pos_of_ne_zero Hb0.out))
      obtain ⟨r, hr⟩ : ∃ r, r = a % b := ⟨_, rfl⟩
      have Hr := Lib.hid hr
      rw [← hr] at Hml ⊢
      have hr4 : r < 4294967296 := Nat.lt_trans Hml.out hb4
      replace bw := below_two bw bn
      clear bn hx1 hy2 hr k3
      go_wp2_with fail
      refine (of_c r _ rfl (by omega) w4).mono ?_
      rintro e w5 ⟨A5, n5, c5, rfl, ho, bn⟩
      have HQ := Lib.hid (hq.below bn)
      rw [Hr.out] at ho
      have HO := Lib.hid (ho.relax Hl.out)
      have HW := Lib.hid (below_two bw bn)
      clear ho hq bn bw
      go_wp2
      go_ret3
      exact ⟨_, _, _, _, _, _, rfl, HQ.out, HO.out, HW.out⟩
    · obtain ⟨k, rfl⟩ : ∃ k, n2 = k + 1 := ⟨n2 - 1, by omega⟩
      have hne1 : (((k + 1 : Nat) : Int) == 1) = false := by simp; omega
      have hk1 : 1 ≤ k := by omega
      have k3 := hc2 k (by omega)
      have ek : ((k + 1 : Nat) : Int) - 1 = (k : Int) := by omega
      obtain ⟨t, ht⟩ : ∃ t, t = lim (limbs b) k := ⟨_, rfl⟩
      have ht4 : t < 4294967296 := by rw [ht]; exact lim_lt (small_limbs b) k
      have hbl : blen t ≤ 32 := blen_le (k := 32) ht4
      obtain ⟨f, hf⟩ : ∃ f, f + blen t = 32 := ⟨32 - blen t, by omega⟩
      have hnorm := norm_ok (f := f) Hyl.out (by rw [← ht]; exact hf)
      have HF := Lib.hid hf
      have Hnorm := Lib.hid hnorm
      rw [← ht] at k3
      have hf32 : f ≤ 32 := by omega
      have hsa : shiftV a (f : Int) = a * 2 ^ f := shiftV_up (by omega) (by omega)
      have hsb : shiftV b (f : Int) = b * 2 ^ f := shiftV_up (by omega) (by omega)
      have h2f : 2 ^ f ≤ 4294967296 := (Nat.pow_le_pow_right (n := 2) (by decide) hf32 : 2 ^ f ≤ 2 ^ 32)
      have Hsa := Lib.hid hsa
      have Hsb := Lib.hid hsb
      have Hba : RowKit.Hid (a * 2 ^ f < 4294967296 ^ (L + 1)) := by
        show _ < _
        rw [Nat.pow_succ]
        exact Nat.lt_of_lt_of_le (Nat.mul_lt_mul_of_pos_right (lt_pow hx1) (Nat.two_pow_pos f)) (Nat.mul_le_mul_left _ h2f)
      have Hbb : RowKit.Hid (b * 2 ^ f < 4294967296 ^ (L' + 1)) := by
        show _ < _
        rw [Nat.pow_succ]
        exact Nat.lt_of_lt_of_le (Nat.mul_lt_mul_of_pos_right (lt_pow hy2) (Nat.two_pow_pos f)) (Nat.mul_le_mul_left _ h2f)
      have Hab : RowKit.Hid (b * 2 ^ f ≤ a * 2 ^ f) := Nat.mul_le_mul_right _ Hge.out
      clear ht hbl hf hnorm hsa hsb h2f hc2 hn1 hn2e
      go_wp2_with fail
      refine (lead_any t w3 ht4 f HF.out).mono ?_
      rintro e w4 ⟨rfl, rfl⟩
      go_wp2_with fail
      refine (mulShift_c hx1 (f : Int) (by omega) (by omega) (a * 2 ^ f) (L + 1) Hsa.out Hba.out (by omega)).mono ?_
      rintro e w4 ⟨A4, n4, c4, rfl, ha, bn⟩
      replace hy2 := hy2.below bn
      replace bw := below_two bw bn
      clear bn hx1
      go_wp2_with fail
      refine (mulShift_c hy2 (f : Int) (by omega) (by omega) (b * 2 ^ f) (L' + 1) Hsb.out Hbb.out (by omega)).mono ?_
      rintro e w5 ⟨A5, n5, c5, rfl, hbn, bn⟩
      replace ha := ha.below bn
      replace bw := below_two bw bn
      clear bn hy2
      have hn5 : n5 = k + 1 := by have := hbn.isN.len; rw [Hnorm.out.1] at this; exact this.symm
      subst hn5
      have hle4 := ha.le
      have hcap4 := ha.cap
      have h54 : k + 1 ≤ n4 := by
        have := length_limbs_mono Hab.out
        rwa [Hnorm.out.1, ha.isN.len] at this
      have hi4 := ha.isN
      have hi5 := hbn.isN
      have HD := Lib.hid (divide_any A4 n4 c4 (limbs (a * 2 ^ f)) A5 (k + 1) c5 (limbs (b * 2 ^ f)) w5 hi4 hi5 (by omega) hcap4 (by omega) h54 (by rw [Nat.add_sub_cancel]; exact Hnorm.out.2))
      clear ha hbn hi4 hi5
      go_wp2_with fail
      refine HD.out.mono ?_
      rintro e w6 ⟨A6, n6, c6, A7, c7, zs, rfl, hq, ⟨hr, hvr⟩, bn⟩
      rw [val_limbs, val_limbs] at hvr
      rw [val_limbs, val_limbs, quo_same] at hq
      have hq2 := NN.own hq Hla.out
      have hr2 : NN w6 A7 (k + 1) c7 zs (a * 2 ^ f % (b * 2 ^ f)) (L' + 1) := ⟨hr.isN, hvr, hr.caps.1, by omega⟩
      replace bw := below_two bw bn
      have Hsr : RowKit.Hid (shiftV (a * 2 ^ f % (b * 2 ^ f)) (-(f : Int)) = a % b) := by
        show _ = _
        rw [← rem_back (a := a) (b := b) (f := f)]
        by_cases h0 : f = 0
        · rw [h0]; exact (shiftV_up (n := -((0 : Nat) : Int)) (k := 0) (by omega) (by omega)).trans (by simp)
        · exact shiftV_down (n := -(f : Int)) (k := f) (by omega) (by omega) (by omega)
      clear bn hq hr hvr HD
      go_wp2_with fail
      refine (mulShift_c hr2 (-(f : Int)) (by omega) (by omega) (a % b) L' Hsr.out Hl.out (by omega)).mono ?_
      rintro e w7 ⟨A8, n8, c8, rfl, hr3, bn⟩
      have HQ := Lib.hid (hq2.below bn)
      have HR := Lib.hid hr3
      have HW := Lib.hid (below_two bw bn)
      clear hq2 hr3 hr2 bn bw
      go_wp2
      go_ret3
      exact ⟨_, _, _, _, _, _, rfl, HQ.out, HR.out, HW.out⟩

end Go.Proofs.Ytmifgblbicnimaa

/- What package quo's nearer answers, as a contract over memory: two numbers further on in the divisions of two numbers by each other: the same greatest divisor, the second one less than it was. Conditions: both lists are the shortest ones, of at most 10^5 limbs; the first number has more than two limbs, the second one is not 0 and not above it. -/
namespace Go.Proofs.Ytmifgblbicnimaa.Limb

theorem gcd_cast {a b x y : Nat} (h : Int.gcd (x : Int) (y : Int) = Int.gcd (a : Int) (b : Int)) : gcdN x y = gcdN a b := by
  unfold gcdN; simpa [Int.gcd_natCast_natCast] using h

/-- The heads of two numbers, as far as the first one's highest 62 bits. -/
theorem heads_of {a b k : Nat} (hk : k + 62 = blen a) (hba : b ≤ a) : Heads ((a / 2 ^ k : Nat) : Int) ((b / 2 ^ k : Nat) : Int) (a : Int) (b : Int) ((2 ^ k : Nat) : Int) := by
  have hS : 0 < 2 ^ k := Nat.two_pow_pos k
  have h1 := Nat.div_mul_le_self a (2 ^ k)
  have h2 := Nat.lt_mul_div_succ a hS
  have h3 := Nat.div_mul_le_self b (2 ^ k)
  have h4 := Nat.lt_mul_div_succ b hS
  have h5 : a / 2 ^ k < 4611686018427387904 := by
    rw [Nat.div_lt_iff_lt_mul hS]
    have := blen_lt a
    rw [← hk, Nat.add_comm, Nat.pow_add] at this
    exact this
  have h6 : b / 2 ^ k ≤ a / 2 ^ k := Nat.div_le_div_right hba
  rw [Nat.mul_comm] at h2 h4
  generalize a / 2 ^ k = x at *
  generalize b / 2 ^ k = y at *
  generalize 2 ^ k = S at *
  refine ⟨by omega, ?_, ?_, ?_, ?_, by omega, by omega, by omega, by omega⟩
  · have : ((x * S : Nat) : Int) ≤ (a : Int) := by omega
    simpa using this
  · have : (a : Int) < (((x + 1) * S : Nat) : Int) := by omega
    simpa using this
  · have : ((y * S : Nat) : Int) ≤ (b : Int) := by omega
    simpa using this
  · have : (b : Int) < (((y + 1) * S : Nat) : Int) := by omega
    simpa using this

theorem head_small {a b k : Nat} (hk : k + 62 = blen a) (hba : b ≤ a) : b / 2 ^ k % 18446744073709551616 = b / 2 ^ k := by
  have h5 : b / 2 ^ k < 4611686018427387904 := by
    rw [Nat.div_lt_iff_lt_mul (Nat.two_pow_pos k)]
    have := blen_lt a
    rw [← hk, Nat.add_comm, Nat.pow_add] at this
    exact Nat.lt_of_le_of_lt hba this
  exact Nat.mod_eq_of_lt (by omega)

theorem blen_long {a : Nat} (h : 2 < (limbs a).length) : 65 ≤ blen a := by
  have h0 : a ≠ 0 := by intro e; rw [e, limbs_zero] at h; simp at h
  have h1 := length_limbs_pred h0
  have h2 : 4294967296 ^ 2 ≤ 4294967296 ^ ((limbs a).length - 1) := Nat.pow_le_pow_right (by decide) (by omega)
  have h3 := blen_lt a
  have h4 : 2 ^ 64 < 2 ^ blen a := Nat.lt_of_le_of_lt (Nat.le_trans (by decide) (Nat.le_trans h2 h1)) h3
  have := (Nat.pow_lt_pow_iff_right (by decide)).1 h4
  omega

end Go.Proofs.Ytmifgblbicnimaa.Limb
namespace Go.Proofs.Ytmifgblbicnimaa
open Go.RowKit Limb
set_option linter.unusedVariables false

theorem of_c2 (P Q : Int) {A A' : Option Addr} {n c n' c' a b L L' : Nat} {w : World} (hx : NN w A n c (limbs a) a L) (hy : NN w A' n' c' (limbs b) b L') (h1 : L ≤ 100000) (hba : b ≤ a) (hPQ : MixOk P Q) (v : Nat) (hv : P * (a : Int) + Q * (b : Int) = (v : Int)) (hva : v ≤ a) :
    Calls Try.prog 89 #[.agg #[.int .i64 P, .int .i64 Q], .slice A n c, .slice A' n' c'] w fun e w' => ∃ A2 n2 c2, e = .returned (.slice A2 n2 c2) ∧ NN w' A2 n2 c2 (limbs v) v L ∧ Below w.heap.size w w' := by
  have hn : n' ≤ n := by rw [← hx.isN.len, ← hy.isN.len]; exact length_limbs_mono hba
  have hv2 : v < 4294967296 ^ n := by
    have h := val_lt hx.isN.small
    rw [hx.val, hx.isN.len] at h
    omega
  refine (of_mix P Q A n c (limbs a) A' n' c' (limbs b) w hx.isN hy.isN (by have := hx.le; omega) hn hPQ v (by rw [val_limbs, val_limbs]; exact hv) hv2).mono ?_
  rintro e w' ⟨A2, n2, c2, rfl, how, hb⟩
  exact ⟨A2, n2, c2, rfl, NN.own how (Nat.lt_of_le_of_lt hva (lt_pow hx)), hb⟩

set_option maxHeartbeats 1000000 in
theorem nearer_c {A A' : Option Addr} {n c n' c' a b L : Nat} {w : World} (hx : NN w A n c (limbs a) a L) (hy : NN w A' n' c' (limbs b) b L) (h1 : L ≤ 100000) (h3 : 2 < n) (hb : b ≠ 0) (hba : b ≤ a) :
    Calls Try.prog 72 #[.slice A n c, .slice A' n' c'] w fun e w' => ∃ x y A1 n1 c1 A2 n2 c2, e = .returned (.tuple #[.slice A1 n1 c1, .slice A2 n2 c2]) ∧ NN w' A1 n1 c1 (limbs x) x L ∧ NN w' A2 n2 c2 (limbs y) y L ∧
      RowKit.Hid (y < b ∧ y ≤ x ∧ gcdN x y = gcdN a b) ∧ Below w.heap.size w w' := by
  have hbl : 65 ≤ blen a := blen_long (by rw [hx.isN.len]; exact h3)
  have hb32 := blen_NN hx
  obtain ⟨k, hk⟩ : ∃ k, k + 62 = blen a := ⟨blen a - 62, by omega⟩
  have hH := heads_of hk hba
  have hs1 := head_small hk (Nat.le_refl a)
  have hs2 := head_small hk hba
  obtain ⟨x0, hx0⟩ : ∃ x, x = a / 2 ^ k := ⟨_, rfl⟩
  obtain ⟨y0, hy0⟩ : ∃ x, x = b / 2 ^ k := ⟨_, rfl⟩
  rw [← hx0] at hH
  rw [← hy0] at hH
  replace hs1 := hs1.trans hx0.symm
  replace hs2 := hs2.trans hy0.symm
  have x62 : x0 < 4611686018427387904 := by have := hH.x62; omega
  have y62 : y0 < 4611686018427387904 := by have := hH.yx; omega
  obtain ⟨l, hl⟩ : ∃ l, l = blen a := ⟨_, rfl⟩
  have hlk : (l : Int) - 62 = (k : Int) := by omega
  have hkk : k ≤ 3200000 := by omega
  have Hl := Lib.hid hl.symm
  have HH := Lib.hid hH
  have Hs1 := Lib.hid hs1
  have Hs2 := Lib.hid hs2
  have Hb0 := Lib.hid hb
  have Hba := Lib.hid hba
  have hle1 := hx.le
  have hle2 := hy.le
  clear hk hH hs1 hs2 hx0 hy0 hl hbl hb hba hb32
  go_enter Try.func72, Try.ntmps72
  go_wp2_with fail
  refine (bits_c hx (by omega) (l : Int) (by rw [Hl.out])).mono ?_
  rintro e w1 ⟨rfl, rfl⟩
  go_wp2_with fail
  refine (head_any A n c (limbs a) w hx.isN (by omega) k _ (by omega) (by omega) x0 (by rw [val_limbs]; exact Hs1.out)).mono ?_
  rintro e w1 ⟨rfl, nd, rfl⟩
  have bn := below_drewN (Below.refl w.heap.size w) nd
  have hx1 := hx.below bn
  have hy1 := hy.below bn
  have bw := bn
  clear bn hx hy
  generalize w.drewN nd = w1 at *
  go_wp2_with fail
  refine (head_any A' n' c' (limbs b) w1 hy1.isN (by omega) k _ (by omega) (by omega) y0 (by rw [val_limbs]; exact Hs2.out)).mono ?_
  rintro e w2 ⟨rfl, nd, rfl⟩
  have bn := below_drewN (Below.refl w1.heap.size w1) nd
  have hx2 := hx1.below bn
  have hy2 := hy1.below bn
  replace bw := below_two bw bn
  clear bn hx1 hy1
  generalize w1.drewN nd = w2 at *
  go_wp2_with fail
  refine (sure_any (x0 : Int) (y0 : Int) (a : Int) (b : Int) _ HH.out w2).mono ?_
  rintro e w3 ⟨fa, fb, sa, sb, rfl, hE, bn⟩
  have HE := Lib.hid hE
  have hx3 := hx2.below bn
  have hy3 := hy2.below bn
  replace bw := below_two bw bn
  clear hE bn hx2 hy2
  have P7 : RowKit.Hid (Pair ((w3.alloc (.cells #[Value.int .i64 fa, Value.int .i64 fb] 97)).alloc (.cells #[Value.int .i64 sa, Value.int .i64 sb] 97)) w3.heap.size fa fb) := (pair_new w3 fa fb).below (below_new _ _)
  have P8 : RowKit.Hid (Pair ((w3.alloc (.cells #[Value.int .i64 fa, Value.int .i64 fb] 97)).alloc (.cells #[Value.int .i64 sa, Value.int .i64 sb] 97)) (w3.heap.size + 1) sa sb) := by
    have h := pair_new (w3.alloc (.cells #[Value.int .i64 fa, Value.int .i64 fb] 97)) sa sb
    have e : (w3.alloc (.cells #[Value.int .i64 fa, Value.int .i64 fb] 97)).heap.size = w3.heap.size + 1 := by simp
    rw [e] at h
    exact h
  have bn := below_two (below_new w3 (.cells #[Value.int .i64 fa, Value.int .i64 fb] 97)) (below_new _ (.cells #[Value.int .i64 sa, Value.int .i64 sb] 97))
  have hx4 := hx3.below bn
  have hy4 := hy3.below bn
  replace bw := below_two bw bn
  clear bn hx3 hy3
  by_cases hfb : fb = 0
  · subst hfb
    have c71 := P7.out.c1
    clear P7 P8
    go_wp2_with fail
    refine (quoRem_yes hx4 hy4 h1 h1 Hb0.out).mono ?_
    rintro e w5 ⟨A5, n5, c5, A6, n6, c6, rfl, hq, hr, bn⟩
    have HX := Lib.hid (hy4.below bn)
    have HY := Lib.hid hr
    have HW := Lib.hid (below_two bw bn)
    have HP : RowKit.Hid (a % b < b ∧ a % b ≤ b ∧ gcdN b (a % b) = gcdN a b) := ⟨Nat.mod_lt _ (Nat.pos_of_ne_zero Hb0.out), Nat.le_of_lt (Nat.mod_lt _ (Nat.pos_of_ne_zero Hb0.out)), gcdN_step rfl⟩
    clear hq hr bn bw hx4 hy4 c71
    go_wp2
    go_ret2
    exact ⟨b, a % b, _, _, _, _, _, _, rfl, HX.out, HY.out, HP, HW.out⟩
  · have hf1 : (fb != 0) = true := by simp [hfb]
    obtain ⟨v1, v2, v3, v4, v5, v6⟩ := HE.out hfb
    obtain ⟨x, hx⟩ := Int.eq_ofNat_of_zero_le (show 0 ≤ fa * (a : Int) + fb * (b : Int) by omega)
    obtain ⟨y, hy⟩ := Int.eq_ofNat_of_zero_le v1
    rw [hx, hy] at v4
    have HP : RowKit.Hid (y < b ∧ y ≤ x ∧ gcdN x y = gcdN a b) := ⟨by omega, by omega, gcd_cast v4⟩
    have hxa : x ≤ a := by have := Hba.out; omega
    have hya : y ≤ a := by have := Hba.out; omega
    have c70 := P7.out.c0
    have c71 := P7.out.c1
    have c80 := P8.out.c0
    have c81 := P8.out.c1
    have l7 := P7.out.lt
    have l8 := P8.out.lt
    have Hx := Lib.hid hx
    have Hy := Lib.hid hy
    have HX4 := Lib.hid hx4
    have HY4 := Lib.hid hy4
    have HW4 := Lib.hid bw
    clear hx hy v1 v2 v3 v4 P7 P8 HE hx4 hy4 bw
    go_wp2
    generalize (w3.alloc (.cells #[Value.int .i64 fa, Value.int .i64 fb] 97)).alloc (.cells #[Value.int .i64 sa, Value.int .i64 sb] 97) = w4 at *
    obtain ⟨g7, hg7⟩ : ∃ g, g = w3.heap.size := ⟨_, rfl⟩
    rw [← hg7] at c70 c71 c80 c81 l7 l8 ⊢
    clear hg7
    have Hc : RowKit.Hid (∀ wx, Below w4.heap.size w4 wx → wx.cell? ⟨g7, 0, none⟩ = some (.int .i64 fa) ∧ wx.cell? ⟨g7, 1, none⟩ = some (.int .i64 fb) ∧ wx.cell? ⟨g7 + 1, 0, none⟩ = some (.int .i64 sa) ∧ wx.cell? ⟨g7 + 1, 1, none⟩ = some (.int .i64 sb)) := fun wx hb =>
      ⟨(hb.cell (p := ⟨g7, 0, none⟩) l7).trans c70, (hb.cell (p := ⟨g7, 1, none⟩) l7).trans c71, (hb.cell (p := ⟨g7 + 1, 0, none⟩) l8).trans c80, (hb.cell (p := ⟨g7 + 1, 1, none⟩) l8).trans c81⟩
    have KA : RowKit.Hid (∀ wx, Below w4.heap.size w4 wx → (wx.cell? ⟨g7, 0, none⟩ = some (.int .i64 fa) ∧ wx.cell? ⟨g7, 1, none⟩ = some (.int .i64 fb) ∧ wx.cell? ⟨g7 + 1, 0, none⟩ = some (.int .i64 sa) ∧ wx.cell? ⟨g7 + 1, 1, none⟩ = some (.int .i64 sb) ∧ Below w4.heap.size w4 wx)) := fun wx hb =>
      ⟨(Hc.out wx hb).1, (Hc.out wx hb).2.1, (Hc.out wx hb).2.2.1, (Hc.out wx hb).2.2.2, hb⟩
    have KS : RowKit.Hid (∀ wx w2, (wx.cell? ⟨g7, 0, none⟩ = some (.int .i64 fa) ∧ wx.cell? ⟨g7, 1, none⟩ = some (.int .i64 fb) ∧ wx.cell? ⟨g7 + 1, 0, none⟩ = some (.int .i64 sa) ∧ wx.cell? ⟨g7 + 1, 1, none⟩ = some (.int .i64 sb) ∧ Below w4.heap.size w4 wx) → Below wx.heap.size wx w2 →
        (w2.cell? ⟨g7, 0, none⟩ = some (.int .i64 fa) ∧ w2.cell? ⟨g7, 1, none⟩ = some (.int .i64 fb) ∧ w2.cell? ⟨g7 + 1, 0, none⟩ = some (.int .i64 sa) ∧ w2.cell? ⟨g7 + 1, 1, none⟩ = some (.int .i64 sb) ∧ Below w4.heap.size w4 w2)) := fun wx w2 hS hb => KA.out w2 (below_two hS.2.2.2.2 hb)
    have K1 : RowKit.Hid (∀ wx, (wx.cell? ⟨g7, 0, none⟩ = some (.int .i64 fa) ∧ wx.cell? ⟨g7, 1, none⟩ = some (.int .i64 fb) ∧ wx.cell? ⟨g7 + 1, 0, none⟩ = some (.int .i64 sa) ∧ wx.cell? ⟨g7 + 1, 1, none⟩ = some (.int .i64 sb) ∧ Below w4.heap.size w4 wx) →
        Calls Try.prog 89 #[.agg #[.int .i64 fa, .int .i64 fb], .slice A n c, .slice A' n' c'] wx fun e w' => ∃ A2 n2 c2, e = .returned (.slice A2 n2 c2) ∧ NN w' A2 n2 c2 (limbs x) x L ∧ Below wx.heap.size wx w') := fun wx hS =>
      of_c2 fa fb (HX4.out.below hS.2.2.2.2) (HY4.out.below hS.2.2.2.2) h1 Hba.out v5 x Hx.out hxa
    have K2 : RowKit.Hid (∀ wx, (wx.cell? ⟨g7, 0, none⟩ = some (.int .i64 fa) ∧ wx.cell? ⟨g7, 1, none⟩ = some (.int .i64 fb) ∧ wx.cell? ⟨g7 + 1, 0, none⟩ = some (.int .i64 sa) ∧ wx.cell? ⟨g7 + 1, 1, none⟩ = some (.int .i64 sb) ∧ Below w4.heap.size w4 wx) →
        Calls Try.prog 89 #[.agg #[.int .i64 sa, .int .i64 sb], .slice A n c, .slice A' n' c'] wx fun e w' => ∃ A2 n2 c2, e = .returned (.slice A2 n2 c2) ∧ NN w' A2 n2 c2 (limbs y) y L ∧ Below wx.heap.size wx w') := fun wx hS =>
      of_c2 sa sb (HX4.out.below hS.2.2.2.2) (HY4.out.below hS.2.2.2.2) h1 Hba.out v6 y Hy.out hya
    have KF : RowKit.Hid (∀ wx, (wx.cell? ⟨g7, 0, none⟩ = some (.int .i64 fa) ∧ wx.cell? ⟨g7, 1, none⟩ = some (.int .i64 fb) ∧ wx.cell? ⟨g7 + 1, 0, none⟩ = some (.int .i64 sa) ∧ wx.cell? ⟨g7 + 1, 1, none⟩ = some (.int .i64 sb) ∧ Below w4.heap.size w4 wx) → Below w.heap.size w wx) := fun wx hS => below_two HW4.out hS.2.2.2.2
    clear c70 c71 c80 c81 v5 v6 l7 l8 HX4 HY4 HW4 Hc
    go_region_held3 (fun wx => wx.cell? ⟨g7, 0, none⟩ = some (.int .i64 fa) ∧ wx.cell? ⟨g7, 1, none⟩ = some (.int .i64 fb) ∧ wx.cell? ⟨g7 + 1, 0, none⟩ = some (.int .i64 sa) ∧ wx.cell? ⟨g7 + 1, 1, none⟩ = some (.int .i64 sb) ∧ Below w4.heap.size w4 wx) (first | assumption | exact KA.out _ ((Below.refl _ _).drew)) (first
      | (go_at_call 89; (with_reducible refine (K1.out _ (by assumption)).mono ?_); rintro e w2 ⟨A_x, n_x, c_x, rfl, h_x, bn_x⟩; have hS2 := KS.out _ _ (by assumption) bn_x)
      | (go_at_call 89; (with_reducible refine (K2.out _ (by assumption)).mono ?_); rintro e w2 ⟨A_y, n_y, c_y, rfl, h_y, bn_y⟩; have hS2 := KS.out _ _ (by assumption) bn_y))
    all_goals
      have HX := Lib.hid (h_x.below bn_y)
      have HY := Lib.hid h_y
      have HW := Lib.hid (KF.out _ hS2)
      clear h_x h_y bn_x bn_y
      go_wp2
      go_ret2
      exact ⟨x, y, _, _, _, _, _, _, rfl, HX.out, HY.out, HP, HW.out⟩

end Go.Proofs.Ytmifgblbicnimaa

/- What package quo's Gcd answers, as a contract over memory: the greatest divisor in common, in its shortest limbs. Conditions: both lists read as limbs, of at most 40000 of them. -/
namespace Go.Proofs.Ytmifgblbicnimaa
open Go.RowKit Limb
set_option linter.unusedVariables false

theorem gcdN_comm (a b : Nat) : gcdN a b = gcdN b a := Nat.gcd_comm a b

set_option maxHeartbeats 1000000 in
theorem quoGcd_c {A A' : Option Addr} {n c n' c' : Nat} {xs ys : List Nat} {a b L L' : Nat} {w : World} (hx : NN w A n c xs a L) (hy : NN w A' n' c' ys b L') (h1 : L ≤ 40000) (h2 : L' ≤ 40000) (K : Nat) (hK : gcdN a b < 4294967296 ^ K) :
    Calls Try.prog 50 #[.slice A n c, .slice A' n' c'] w fun e w' => ∃ A2 n2 c2, e = .returned (.slice A2 n2 c2) ∧ NN w' A2 n2 c2 (limbs (gcdN a b)) (gcdN a b) K ∧ Below w.heap.size w w' := by
  have r1 := Nat.lt_of_lt_of_le (lt_pow hx) (Nat.pow_le_pow_right (show 0 < 4294967296 by decide) (Nat.le_add_right L L'))
  have r2 := Nat.lt_of_lt_of_le (lt_pow hy) (Nat.pow_le_pow_right (show 0 < 4294967296 by decide) (Nat.le_add_left L' L))
  obtain ⟨g, hg⟩ : ∃ g, gcdN a b = g := ⟨_, rfl⟩
  obtain ⟨M, hM⟩ : ∃ M, M = L + L' := ⟨_, rfl⟩
  have hM2 : M ≤ 80000 := by omega
  rw [← hM] at r1 r2
  rw [hg] at hK ⊢
  have R1 := Lib.hid r1
  have R2 := Lib.hid r2
  have HK := Lib.hid hK
  have Hg := Lib.hid hg
  clear r1 r2 hM hK hg
  go_enter Try.func50, Try.ntmps50
  go_wp2_with fail
  refine (trim_c hx (by omega)).mono ?_
  rintro e w1 ⟨A1, n1, c1, rfl, hx1, bn⟩
  have hy1 := hy.below bn
  have bw := bn
  clear hx hy bn
  go_wp2_with fail
  refine (trim_c hy1 (by omega)).mono ?_
  rintro e w2 ⟨A2, n2, c2, rfl, hy2, bn⟩
  have hx2 := (hx1.below bn).relax R1.out
  replace hy2 := hy2.relax R2.out
  replace bw := below_two bw bn
  clear bn hx1 hy1 R1 R2
  by_cases hlt : a < b
  case' pos =>
    have Hv := Lib.hid (cmpI_lt hlt)
    have Hr : RowKit.Hid (a ≤ b ∧ gcdN b a = g) := ⟨Nat.le_of_lt hlt, by rw [gcdN_comm]; exact Hg.out⟩
    clear hlt Hg
    go_wp2_with fail
    refine (cmp_c hx2 hy2 (by omega) (by omega) (-1) Hv.out).mono ?_
    rintro e w3 ⟨rfl, bn⟩
    have HX := Lib.hid (hy2.below bn)
    have HY := Lib.hid (hx2.below bn)
  case' neg =>
    obtain ⟨v, hv, hv0⟩ : ∃ v, cmpI a b = v ∧ 0 ≤ v := by
      rcases Nat.lt_trichotomy a b with h | h | h
      · exact absurd h hlt
      · exact ⟨0, by rw [h]; exact cmpI_eq _, by omega⟩
      · exact ⟨1, cmpI_gt h, by omega⟩
    have Hv := Lib.hid hv
    have Hr : RowKit.Hid (b ≤ a ∧ gcdN a b = g) := ⟨Nat.le_of_not_lt hlt, Hg.out⟩
    clear hlt hv Hg
    go_wp2_with fail
    refine (cmp_c hx2 hy2 (by omega) (by omega) v Hv.out).mono ?_
    rintro e w3 ⟨rfl, bn⟩
    have HX := Lib.hid (hx2.below bn)
    have HY := Lib.hid (hy2.below bn)
  all_goals
    have HW := Lib.hid (below_two bw bn)
    clear hx2 hy2 bn bw Hv
    go_wp2
    go_loopw [0, 1] (fun xv yv wr => ∃ (x y : Nat) (A1 : Option Addr) (n1 c1 : Nat) (A2 : Option Addr) (n2 c2 : Nat), xv = .slice A1 n1 c1 ∧ yv = .slice A2 n2 c2 ∧ RowKit.Hid (y ≤ x ∧ gcdN x y = g) ∧ RowKit.Hid (NN wr A1 n1 c1 (limbs x) x M) ∧ RowKit.Hid (NN wr A2 n2 c2 (limbs y) y M) ∧ RowKit.Hid (Below w.heap.size w wr)) (fun _ yv wr => readN wr yv)
    case atStart => exact ⟨_, _, _, _, _, _, _, _, rfl, rfl, Hr, HX, HY, HW⟩
    case round =>
      clear Hr HX HY HW
      obtain ⟨x, y, A1, n1, c1, A2, n2, c2, rfl, rfl, Hr, HX, HY, HW⟩ := hrel
      by_cases h0 : y = 0
      · subst h0
        have hn0 : n2 = 0 := by have := HY.out.isN.len; rw [limbs_zero] at this; exact this.symm
        subst hn0
        have HG := Lib.hid (gcdN_end Hr.out.2)
        go_wp2
        go_ret
        exact ⟨A1, n1, c1, rfl, by rw [← HG.out]; exact HX.out.relax (by rw [HG.out]; exact HK.out), HW.out⟩
      · have hpos : 0 < n2 := by
          have h := HY.out.isN.len
          rw [limbs_pos h0] at h
          simp at h
          omega
        have H0 := Lib.hid h0
        have hx := HX.out
        have hy := HY.out
        clear h0
        by_cases hn : 2 < n1
        · go_wp2_with fail
          refine (nearer_c hx hy (by omega) hn H0.out Hr.out.1).mono ?_
          rintro e w4 ⟨x', y', A3, n3, c3, A4, n4, c4, rfl, h3, h4, Hp, bn⟩
          have HX2 := Lib.hid h3
          have HY2 := Lib.hid h4
          have HW2 := Lib.hid (below_two HW.out bn)
          have HR2 : RowKit.Hid (y' ≤ x' ∧ gcdN x' y' = g) := ⟨Hp.out.2.1, Hp.out.2.2.trans Hr.out.2⟩
          have HM : RowKit.Hid (readN w4 (.slice A4 n4 c4) < readN wr (.slice A2 n2 c2)) := by
            show _ < _
            rw [readN_eq h4.isN, readN_eq hy.isN, val_limbs, val_limbs]
            exact Hp.out.1
          clear hx hy h3 h4 bn HX HY HW Hr Hp
          go_wp2
          go_roundw
          case rel => exact ⟨x', y', A3, n3, c3, A4, n4, c4, rfl, rfl, HR2, HX2, HY2, HW2⟩
          case measure => exact HM.out
        · have hx64 : x < 18446744073709551616 := by
            have h := val_lt hx.isN.small
            rw [hx.val, hx.isN.len] at h
            have h2 : 4294967296 ^ n1 ≤ 4294967296 ^ 2 := Nat.pow_le_pow_right (by decide) (by omega)
            exact Nat.lt_of_lt_of_le h h2
          have hy64 : y < 18446744073709551616 := Nat.lt_of_le_of_lt Hr.out.1 hx64
          have Hx1 : RowKit.Hid (val (limbs x) / 2 ^ 0 % 18446744073709551616 = x) := by show _ = _; rw [val_limbs, Nat.pow_zero, Nat.div_one, Nat.mod_eq_of_lt hx64]
          have Hy1 : RowKit.Hid (val (limbs y) / 2 ^ 0 % 18446744073709551616 = y) := by show _ = _; rw [val_limbs, Nat.pow_zero, Nat.div_one, Nat.mod_eq_of_lt hy64]
          have hg64 : g < 18446744073709551616 := by
            rw [← Hr.out.2]
            exact Nat.lt_of_le_of_lt (Nat.gcd_le_right _ (Nat.pos_of_ne_zero H0.out)) hy64
          have hl1 := hx.le
          have hl2 := hy.le
          have hn2 : n1 ≤ 2 := by omega
          clear HX HY hn
          go_wp2_with fail
          refine (head_any A1 n1 c1 (limbs x) wr hx.isN (by omega) 0 _ rfl (by omega) x Hx1.out).mono ?_
          rintro e w4 ⟨rfl, nd, rfl⟩
          have bn := below_drewN (Below.refl wr.heap.size wr) nd
          have hy3 := hy.below bn
          have bw := below_two HW.out bn
          clear bn hx hy
          generalize wr.drewN nd = w4 at *
          go_wp2_with fail
          refine (head_any A2 n2 c2 (limbs y) w4 hy3.isN (by omega) 0 _ rfl (by omega) y Hy1.out).mono ?_
          rintro e w5 ⟨rfl, nd, rfl⟩
          have bn := below_drewN (Below.refl w4.heap.size w4) nd
          replace bw := below_two bw bn
          clear bn hy3
          generalize w4.drewN nd = w5 at *
          go_wp2_with fail
          refine (gcdSmall_any x y _ _ rfl rfl w5 hx64 hy64 g Hr.out.2).mono ?_
          rintro e w6 ⟨rfl, bn⟩
          replace bw := below_two bw bn
          clear bn
          go_wp2_with fail
          refine (of_c g _ rfl hg64 w6).mono ?_
          rintro e w7 ⟨A7, n7, c7, rfl, ho, bn⟩
          have HO := Lib.hid (ho.relax HK.out)
          replace bw := below_two bw bn
          clear bn ho
          go_wp2
          go_ret
          exact ⟨_, _, _, rfl, HO.out, bw⟩

end Go.Proofs.Ytmifgblbicnimaa

/- What package rat's Good answers, as a contract over memory. Conditions: sizes of at most so many limbs. -/
namespace Go.Proofs.Ytmifgblbicnimaa
open Go.RowKit Limb
set_option linter.unusedVariables false
section
variable {w : World} {s s' : Bool} {A B A' B' : Option Addr} {n c m d n' c' m' d' : Nat} {xs ys xs' ys' : List Nat} {x y : Int} {a b L L' : Nat}
set_option maxHeartbeats 40000000 in
set_option maxRecDepth 100000 in
theorem rGood_c {o : Option Rat} (hx : QQ w s A n c xs B m d ys o L) (h1 : L ≤ 10000) (v : Bool) (hv : o.isSome = v) :
    Calls Try.prog 24 #[.agg #[.bool s, .slice A n c, .slice B m d]] w fun e w' => e = .returned (.bool v) ∧ Below w.heap.size w w' := by
  have hg := hx.good
  rw [hv] at hg
  have hlx := hx.bot.isN.len
  have hlt := hx.top.nn.isN.len
  have hsx := hx.top.nn.isN.small
  have hsy := hx.bot.isN.small
  have b0 := below_new w (.cells #[Value.bool s, Value.slice A n c, Value.slice B m d] 27)
  have HW := Lib.hid b0
  have HX : RowKit.Hid (NN (w.alloc (.cells #[Value.bool s, Value.slice A n c, Value.slice B m d] 27)) A n c xs (Limb.val xs) L) := by
    have h := hx.top.nn.below b0
    rw [zOf_abs] at h
    exact h
  have HY := Lib.hid (hx.bot.below b0)
  have HR0 := Lib.hid (row3_new w 27 (.bool s) (.slice A n c) (.slice B m d))
  clear b0 hx hv
  by_cases k1 : xs = limbs (Limb.val xs)
  · by_cases k2 : ys = limbs (Limb.val ys)
    · by_cases k5 : n ≤ 64 ∧ m ≤ 64
      · by_cases k3 : m = 0
        · have hgf : goodV s xs ys = false := by
            rw [Bool.eq_false_iff]
            intro h
            obtain ⟨g1, g2, g3, g4, g5, g6, g7⟩ := goodV_iff.1 h
            exact g3 (by rw [List.eq_nil_of_length_eq_zero (hlx.trans k3)]; rfl)
          obtain rfl : v = false := hg.symm.trans hgf
          clear hg hgf hlx hlt hsx hsy
          have m0 : ((m : Int) == 0) = true := by rw [beq_iff_eq]; omega
          have K1 : RowKit.Hid (decide (xs = limbs (Limb.val xs)) = true) := by show _ = _; simpa using k1
          have K2 : RowKit.Hid (decide (ys = limbs (Limb.val ys)) = true) := by show _ = _; simpa using k2
          have K5 : RowKit.Hid ((decide (n ≤ 64) && decide (m ≤ 64)) = true) := by show _ = _; simpa using k5
          clear k1 k2 k5 k3
          go_enter Try.func24, Try.ntmps24
          go_wp2_with fail
          generalize w.alloc (.cells #[Value.bool s, Value.slice A n c, Value.slice B m d] 27) = w1 at *
          refine (rTrimmed_c HX.out (by omega) true K1.out).mono ?_
          rintro e w2 ⟨rfl, rfl⟩
          have c00 := HR0.out.c0
          have c01 := HR0.out.c1
          have c02 := HR0.out.c2
          go_wp2_with fail
          clear c00 c01 c02
          refine (rTrimmed_c HY.out (by omega) true K2.out).mono ?_
          rintro e w2 ⟨rfl, rfl⟩
          have c00 := HR0.out.c0
          have c01 := HR0.out.c1
          have c02 := HR0.out.c2
          go_wp2_with fail
          clear c00 c01 c02
          refine (rFits_c s A B n c m d _ true K5.out).mono ?_
          rintro e w3 ⟨rfl, bn⟩
          replace HX := Lib.hid (HX.out.below bn)
          replace HY := Lib.hid (HY.out.below bn)
          replace HR0 := Lib.hid (HR0.out.below bn)
          replace HW := Lib.hid (below_two HW.out bn)
          clear bn
          have c00 := HR0.out.c0
          have c01 := HR0.out.c1
          have c02 := HR0.out.c2
          go_wp2
          go_ret
          exact ⟨rfl, HW.out⟩
        · by_cases k4 : s = true ∧ n = 0
          · obtain ⟨k4s, k4n⟩ := k4
            have hgf : goodV s xs ys = false := by
              rw [Bool.eq_false_iff]
              intro h
              obtain ⟨g1, g2, g3, g4, g5, g6, g7⟩ := goodV_iff.1 h
              exact g4 ⟨k4s, by rw [List.eq_nil_of_length_eq_zero (hlt.trans k4n)]; rfl⟩
            obtain rfl : v = false := hg.symm.trans hgf
            clear hg hgf hlx hlt hsx hsy
            have m0 : ((m : Int) == 0) = false := by rw [beq_eq_false_iff_ne]; omega
            have n0 : ((n : Int) == 0) = true := by rw [beq_iff_eq]; omega
            subst k4s
            have K1 : RowKit.Hid (decide (xs = limbs (Limb.val xs)) = true) := by show _ = _; simpa using k1
            have K2 : RowKit.Hid (decide (ys = limbs (Limb.val ys)) = true) := by show _ = _; simpa using k2
            have K5 : RowKit.Hid ((decide (n ≤ 64) && decide (m ≤ 64)) = true) := by show _ = _; simpa using k5
            clear k1 k2 k5 k3 k4n
            go_enter Try.func24, Try.ntmps24
            go_wp2_with fail
            generalize w.alloc (.cells #[Value.bool true, Value.slice A n c, Value.slice B m d] 27) = w1 at *
            refine (rTrimmed_c HX.out (by omega) true K1.out).mono ?_
            rintro e w2 ⟨rfl, rfl⟩
            have c00 := HR0.out.c0
            have c01 := HR0.out.c1
            have c02 := HR0.out.c2
            go_wp2_with fail
            clear c00 c01 c02
            refine (rTrimmed_c HY.out (by omega) true K2.out).mono ?_
            rintro e w2 ⟨rfl, rfl⟩
            have c00 := HR0.out.c0
            have c01 := HR0.out.c1
            have c02 := HR0.out.c2
            go_wp2_with fail
            clear c00 c01 c02
            refine (rFits_c true A B n c m d _ true K5.out).mono ?_
            rintro e w3 ⟨rfl, bn⟩
            replace HX := Lib.hid (HX.out.below bn)
            replace HY := Lib.hid (HY.out.below bn)
            replace HR0 := Lib.hid (HR0.out.below bn)
            replace HW := Lib.hid (below_two HW.out bn)
            clear bn
            have c00 := HR0.out.c0
            have c01 := HR0.out.c1
            have c02 := HR0.out.c2
            go_wp2
            go_ret
            exact ⟨rfl, HW.out⟩
          · by_cases hgcd : Nat.gcd (Limb.val xs) (Limb.val ys) = 1
            · have hgt : goodV s xs ys = true := by
                rw [goodV_iff]
                refine ⟨k1, k2, ?_, ?_, by omega, by omega, hgcd⟩
                · intro h; rw [h, limbs_zero] at k2; rw [k2] at hlx; simp at hlx; omega
                · rintro ⟨h1, h2⟩
                  rw [h2, limbs_zero] at k1; rw [k1] at hlt; simp at hlt
                  exact k4 ⟨h1, by omega⟩
              obtain rfl : v = true := hg.symm.trans hgt
              have hl2 := Lib.hid hlx
              clear hg hgt hlx hlt hsx hsy
              obtain ⟨z, hz0⟩ : ∃ z : Int, z = 0 := ⟨_, rfl⟩
              have HZ : RowKit.Hid (cmpI (gcdN (Limb.val xs) (Limb.val ys)) 1 = z) := by show _ = _; rw [hz0]; exact cmpI_same hgcd
              have hzz : (z == 0) = true := by rw [hz0]; rfl
              clear hgcd hz0
              have m0 : ((m : Int) == 0) = false := by rw [beq_eq_false_iff_ne]; omega
              have HG : RowKit.Hid (gcdN (Limb.val xs) (Limb.val ys) < 4294967296 ^ L) := Nat.lt_of_le_of_lt (Nat.gcd_le_right _ (Nat.pos_of_ne_zero fun h0 => k3 (by rw [← hl2.out, k2, h0]; rfl))) (lt_pow HY.out)
              by_cases ks : s = true
              · have n0 : ((n : Int) == 0) = false := by
                  rw [beq_eq_false_iff_ne]
                  have hn0 : n ≠ 0 := fun h => k4 ⟨ks, h⟩
                  omega
                subst ks
                have K1 : RowKit.Hid (decide (xs = limbs (Limb.val xs)) = true) := by show _ = _; simpa using k1
                have K2 : RowKit.Hid (decide (ys = limbs (Limb.val ys)) = true) := by show _ = _; simpa using k2
                have K5 : RowKit.Hid ((decide (n ≤ 64) && decide (m ≤ 64)) = true) := by show _ = _; simpa using k5
                clear k1 k2 k5 k3 k4 hl2
                go_enter Try.func24, Try.ntmps24
                go_wp2_with fail
                generalize w.alloc (.cells #[Value.bool true, Value.slice A n c, Value.slice B m d] 27) = w1 at *
                refine (rTrimmed_c HX.out (by omega) true K1.out).mono ?_
                rintro e w2 ⟨rfl, rfl⟩
                have c00 := HR0.out.c0
                have c01 := HR0.out.c1
                have c02 := HR0.out.c2
                go_wp2_with fail
                clear c00 c01 c02
                refine (rTrimmed_c HY.out (by omega) true K2.out).mono ?_
                rintro e w2 ⟨rfl, rfl⟩
                have c00 := HR0.out.c0
                have c01 := HR0.out.c1
                have c02 := HR0.out.c2
                go_wp2_with fail
                clear c00 c01 c02
                refine (rFits_c true A B n c m d _ true K5.out).mono ?_
                rintro e w3 ⟨rfl, bn⟩
                replace HX := Lib.hid (HX.out.below bn)
                replace HY := Lib.hid (HY.out.below bn)
                replace HR0 := Lib.hid (HR0.out.below bn)
                replace HW := Lib.hid (below_two HW.out bn)
                clear bn
                have c00 := HR0.out.c0
                have c01 := HR0.out.c1
                have c02 := HR0.out.c2
                go_wp2_with fail
                refine (quoGcd_c HX.out HY.out (by omega) (by omega) L HG.out).mono ?_
                rintro e w4 ⟨A3, n3, c3, rfl, h3, bn⟩
                have H3 := Lib.hid h3
                replace HW := Lib.hid (below_two HW.out bn)
                clear bn h3
                clear c00 c01 c02
                go_wp2_with fail
                refine (of_c 1 1 rfl (by decide) _).mono ?_
                rintro e w5 ⟨A4, n4, c4, rfl, h4, bn⟩
                have H4 := Lib.hid h4
                replace H3 := Lib.hid (H3.out.below bn)
                replace HW := Lib.hid (below_two HW.out bn)
                clear bn h4
                go_wp2_with fail
                refine (cmp_c H3.out H4.out (by omega) (by decide) z HZ.out).mono ?_
                rintro e w6 ⟨rfl, bn⟩
                replace HW := Lib.hid (below_two HW.out bn)
                clear bn
                go_wp2
                go_ret
                exact ⟨rfl, HW.out⟩
              · have ks2 : s = false := by simpa using ks
                subst ks2
                have K1 : RowKit.Hid (decide (xs = limbs (Limb.val xs)) = true) := by show _ = _; simpa using k1
                have K2 : RowKit.Hid (decide (ys = limbs (Limb.val ys)) = true) := by show _ = _; simpa using k2
                have K5 : RowKit.Hid ((decide (n ≤ 64) && decide (m ≤ 64)) = true) := by show _ = _; simpa using k5
                clear k1 k2 k5 k3 k4 hl2
                go_enter Try.func24, Try.ntmps24
                go_wp2_with fail
                generalize w.alloc (.cells #[Value.bool false, Value.slice A n c, Value.slice B m d] 27) = w1 at *
                refine (rTrimmed_c HX.out (by omega) true K1.out).mono ?_
                rintro e w2 ⟨rfl, rfl⟩
                have c00 := HR0.out.c0
                have c01 := HR0.out.c1
                have c02 := HR0.out.c2
                go_wp2_with fail
                clear c00 c01 c02
                refine (rTrimmed_c HY.out (by omega) true K2.out).mono ?_
                rintro e w2 ⟨rfl, rfl⟩
                have c00 := HR0.out.c0
                have c01 := HR0.out.c1
                have c02 := HR0.out.c2
                go_wp2_with fail
                clear c00 c01 c02
                refine (rFits_c false A B n c m d _ true K5.out).mono ?_
                rintro e w3 ⟨rfl, bn⟩
                replace HX := Lib.hid (HX.out.below bn)
                replace HY := Lib.hid (HY.out.below bn)
                replace HR0 := Lib.hid (HR0.out.below bn)
                replace HW := Lib.hid (below_two HW.out bn)
                clear bn
                have c00 := HR0.out.c0
                have c01 := HR0.out.c1
                have c02 := HR0.out.c2
                go_wp2_with fail
                refine (quoGcd_c HX.out HY.out (by omega) (by omega) L HG.out).mono ?_
                rintro e w4 ⟨A3, n3, c3, rfl, h3, bn⟩
                have H3 := Lib.hid h3
                replace HW := Lib.hid (below_two HW.out bn)
                clear bn h3
                clear c00 c01 c02
                go_wp2_with fail
                refine (of_c 1 1 rfl (by decide) _).mono ?_
                rintro e w5 ⟨A4, n4, c4, rfl, h4, bn⟩
                have H4 := Lib.hid h4
                replace H3 := Lib.hid (H3.out.below bn)
                replace HW := Lib.hid (below_two HW.out bn)
                clear bn h4
                go_wp2_with fail
                refine (cmp_c H3.out H4.out (by omega) (by decide) z HZ.out).mono ?_
                rintro e w6 ⟨rfl, bn⟩
                replace HW := Lib.hid (below_two HW.out bn)
                clear bn
                go_wp2
                go_ret
                exact ⟨rfl, HW.out⟩
            · have hgf : goodV s xs ys = false := by
                rw [Bool.eq_false_iff]
                intro h
                obtain ⟨g1, g2, g3, g4, g5, g6, g7⟩ := goodV_iff.1 h
                exact hgcd g7
              obtain rfl : v = false := hg.symm.trans hgf
              have hl2 := Lib.hid hlx
              clear hg hgf hlx hlt hsx hsy
              obtain ⟨z, hz0, hz1⟩ : ∃ z : Int, cmpI (gcdN (Limb.val xs) (Limb.val ys)) 1 = z ∧ z ≠ 0 := by
                rcases Nat.lt_trichotomy (gcdN (Limb.val xs) (Limb.val ys)) 1 with h | h | h
                · exact ⟨-1, cmpI_lt h, by decide⟩
                · exact absurd h hgcd
                · exact ⟨1, cmpI_gt h, by decide⟩
              have HZ := Lib.hid hz0
              have hzz : (z == 0) = false := by rw [beq_eq_false_iff_ne]; exact hz1
              clear hgcd hz0 hz1
              have m0 : ((m : Int) == 0) = false := by rw [beq_eq_false_iff_ne]; omega
              have HG : RowKit.Hid (gcdN (Limb.val xs) (Limb.val ys) < 4294967296 ^ L) := Nat.lt_of_le_of_lt (Nat.gcd_le_right _ (Nat.pos_of_ne_zero fun h0 => k3 (by rw [← hl2.out, k2, h0]; rfl))) (lt_pow HY.out)
              by_cases ks : s = true
              · have n0 : ((n : Int) == 0) = false := by
                  rw [beq_eq_false_iff_ne]
                  have hn0 : n ≠ 0 := fun h => k4 ⟨ks, h⟩
                  omega
                subst ks
                have K1 : RowKit.Hid (decide (xs = limbs (Limb.val xs)) = true) := by show _ = _; simpa using k1
                have K2 : RowKit.Hid (decide (ys = limbs (Limb.val ys)) = true) := by show _ = _; simpa using k2
                have K5 : RowKit.Hid ((decide (n ≤ 64) && decide (m ≤ 64)) = true) := by show _ = _; simpa using k5
                clear k1 k2 k5 k3 k4 hl2
                go_enter Try.func24, Try.ntmps24
                go_wp2_with fail
                generalize w.alloc (.cells #[Value.bool true, Value.slice A n c, Value.slice B m d] 27) = w1 at *
                refine (rTrimmed_c HX.out (by omega) true K1.out).mono ?_
                rintro e w2 ⟨rfl, rfl⟩
                have c00 := HR0.out.c0
                have c01 := HR0.out.c1
                have c02 := HR0.out.c2
                go_wp2_with fail
                clear c00 c01 c02
                refine (rTrimmed_c HY.out (by omega) true K2.out).mono ?_
                rintro e w2 ⟨rfl, rfl⟩
                have c00 := HR0.out.c0
                have c01 := HR0.out.c1
                have c02 := HR0.out.c2
                go_wp2_with fail
                clear c00 c01 c02
                refine (rFits_c true A B n c m d _ true K5.out).mono ?_
                rintro e w3 ⟨rfl, bn⟩
                replace HX := Lib.hid (HX.out.below bn)
                replace HY := Lib.hid (HY.out.below bn)
                replace HR0 := Lib.hid (HR0.out.below bn)
                replace HW := Lib.hid (below_two HW.out bn)
                clear bn
                have c00 := HR0.out.c0
                have c01 := HR0.out.c1
                have c02 := HR0.out.c2
                go_wp2_with fail
                refine (quoGcd_c HX.out HY.out (by omega) (by omega) L HG.out).mono ?_
                rintro e w4 ⟨A3, n3, c3, rfl, h3, bn⟩
                have H3 := Lib.hid h3
                replace HW := Lib.hid (below_two HW.out bn)
                clear bn h3
                clear c00 c01 c02
                go_wp2_with fail
                refine (of_c 1 1 rfl (by decide) _).mono ?_
                rintro e w5 ⟨A4, n4, c4, rfl, h4, bn⟩
                have H4 := Lib.hid h4
                replace H3 := Lib.hid (H3.out.below bn)
                replace HW := Lib.hid (below_two HW.out bn)
                clear bn h4
                go_wp2_with fail
                refine (cmp_c H3.out H4.out (by omega) (by decide) z HZ.out).mono ?_
                rintro e w6 ⟨rfl, bn⟩
                replace HW := Lib.hid (below_two HW.out bn)
                clear bn
                go_wp2
                go_ret
                exact ⟨rfl, HW.out⟩
              · have ks2 : s = false := by simpa using ks
                subst ks2
                have K1 : RowKit.Hid (decide (xs = limbs (Limb.val xs)) = true) := by show _ = _; simpa using k1
                have K2 : RowKit.Hid (decide (ys = limbs (Limb.val ys)) = true) := by show _ = _; simpa using k2
                have K5 : RowKit.Hid ((decide (n ≤ 64) && decide (m ≤ 64)) = true) := by show _ = _; simpa using k5
                clear k1 k2 k5 k3 k4 hl2
                go_enter Try.func24, Try.ntmps24
                go_wp2_with fail
                generalize w.alloc (.cells #[Value.bool false, Value.slice A n c, Value.slice B m d] 27) = w1 at *
                refine (rTrimmed_c HX.out (by omega) true K1.out).mono ?_
                rintro e w2 ⟨rfl, rfl⟩
                have c00 := HR0.out.c0
                have c01 := HR0.out.c1
                have c02 := HR0.out.c2
                go_wp2_with fail
                clear c00 c01 c02
                refine (rTrimmed_c HY.out (by omega) true K2.out).mono ?_
                rintro e w2 ⟨rfl, rfl⟩
                have c00 := HR0.out.c0
                have c01 := HR0.out.c1
                have c02 := HR0.out.c2
                go_wp2_with fail
                clear c00 c01 c02
                refine (rFits_c false A B n c m d _ true K5.out).mono ?_
                rintro e w3 ⟨rfl, bn⟩
                replace HX := Lib.hid (HX.out.below bn)
                replace HY := Lib.hid (HY.out.below bn)
                replace HR0 := Lib.hid (HR0.out.below bn)
                replace HW := Lib.hid (below_two HW.out bn)
                clear bn
                have c00 := HR0.out.c0
                have c01 := HR0.out.c1
                have c02 := HR0.out.c2
                go_wp2_with fail
                refine (quoGcd_c HX.out HY.out (by omega) (by omega) L HG.out).mono ?_
                rintro e w4 ⟨A3, n3, c3, rfl, h3, bn⟩
                have H3 := Lib.hid h3
                replace HW := Lib.hid (below_two HW.out bn)
                clear bn h3
                clear c00 c01 c02
                go_wp2_with fail
                refine (of_c 1 1 rfl (by decide) _).mono ?_
                rintro e w5 ⟨A4, n4, c4, rfl, h4, bn⟩
                have H4 := Lib.hid h4
                replace H3 := Lib.hid (H3.out.below bn)
                replace HW := Lib.hid (below_two HW.out bn)
                clear bn h4
                go_wp2_with fail
                refine (cmp_c H3.out H4.out (by omega) (by decide) z HZ.out).mono ?_
                rintro e w6 ⟨rfl, bn⟩
                replace HW := Lib.hid (below_two HW.out bn)
                clear bn
                go_wp2
                go_ret
                exact ⟨rfl, HW.out⟩
      · have hgf : goodV s xs ys = false := by
          rw [Bool.eq_false_iff]
          intro h
          obtain ⟨g1, g2, g3, g4, g5, g6, g7⟩ := goodV_iff.1 h
          exact k5 ⟨by omega, by omega⟩
        obtain rfl : v = false := hg.symm.trans hgf
        clear hg hgf hlx hlt hsx hsy
        have K1 : RowKit.Hid (decide (xs = limbs (Limb.val xs)) = true) := by show _ = _; simpa using k1
        have K2 : RowKit.Hid (decide (ys = limbs (Limb.val ys)) = true) := by show _ = _; simpa using k2
        have K5 : RowKit.Hid ((decide (n ≤ 64) && decide (m ≤ 64)) = false) := by show _ = _; rw [Bool.eq_false_iff]; simpa using k5
        clear k1 k2 k5 
        go_enter Try.func24, Try.ntmps24
        go_wp2_with fail
        generalize w.alloc (.cells #[Value.bool s, Value.slice A n c, Value.slice B m d] 27) = w1 at *
        refine (rTrimmed_c HX.out (by omega) true K1.out).mono ?_
        rintro e w2 ⟨rfl, rfl⟩
        have c00 := HR0.out.c0
        have c01 := HR0.out.c1
        have c02 := HR0.out.c2
        go_wp2_with fail
        clear c00 c01 c02
        refine (rTrimmed_c HY.out (by omega) true K2.out).mono ?_
        rintro e w2 ⟨rfl, rfl⟩
        have c00 := HR0.out.c0
        have c01 := HR0.out.c1
        have c02 := HR0.out.c2
        go_wp2_with fail
        clear c00 c01 c02
        refine (rFits_c s A B n c m d _ false K5.out).mono ?_
        rintro e w3 ⟨rfl, bn⟩
        replace HX := Lib.hid (HX.out.below bn)
        replace HY := Lib.hid (HY.out.below bn)
        replace HR0 := Lib.hid (HR0.out.below bn)
        replace HW := Lib.hid (below_two HW.out bn)
        clear bn
        go_wp2
        go_ret
        exact ⟨rfl, HW.out⟩
    · have hgf : goodV s xs ys = false := by
        rw [Bool.eq_false_iff]
        intro h
        obtain ⟨g1, g2, g3, g4, g5, g6, g7⟩ := goodV_iff.1 h
        exact k2 g2
      obtain rfl : v = false := hg.symm.trans hgf
      clear hg hgf hlx hlt hsx hsy
      have K1 : RowKit.Hid (decide (xs = limbs (Limb.val xs)) = true) := by show _ = _; simpa using k1
      have K2 : RowKit.Hid (decide (ys = limbs (Limb.val ys)) = false) := by show _ = _; simpa using k2
      clear k1 k2
      go_enter Try.func24, Try.ntmps24
      go_wp2_with fail
      generalize w.alloc (.cells #[Value.bool s, Value.slice A n c, Value.slice B m d] 27) = w1 at *
      refine (rTrimmed_c HX.out (by omega) true K1.out).mono ?_
      rintro e w2 ⟨rfl, rfl⟩
      have c00 := HR0.out.c0
      have c01 := HR0.out.c1
      have c02 := HR0.out.c2
      go_wp2_with fail
      clear c00 c01 c02
      refine (rTrimmed_c HY.out (by omega) false K2.out).mono ?_
      rintro e w2 ⟨rfl, rfl⟩
      go_wp2
      go_ret
      exact ⟨rfl, HW.out⟩
  · have hgf : goodV s xs ys = false := by
      rw [Bool.eq_false_iff]
      intro h
      obtain ⟨g1, g2, g3, g4, g5, g6, g7⟩ := goodV_iff.1 h
      exact k1 g1
    obtain rfl : v = false := hg.symm.trans hgf
    clear hg hgf hlx hlt hsx hsy
    have K1 : RowKit.Hid (decide (xs = limbs (Limb.val xs)) = false) := by show _ = _; simpa using k1
    clear k1
    go_enter Try.func24, Try.ntmps24
    go_wp2_with fail
    generalize w.alloc (.cells #[Value.bool s, Value.slice A n c, Value.slice B m d] 27) = w1 at *
    refine (rTrimmed_c HX.out (by omega) false K1.out).mono ?_
    rintro e w2 ⟨rfl, rfl⟩
    go_wp2
    go_ret
    exact ⟨rfl, HW.out⟩

end
end Go.Proofs.Ytmifgblbicnimaa

/- What package whole's Cmp answers, as a contract over memory: whole numbers in the shortest limbs, 0 not below 0. Conditions: sizes of at most so many limbs; the table of powers of ten where texts are made or read. -/
namespace Go.Proofs.Ytmifgblbicnimaa
open Go.RowKit Limb
set_option linter.unusedVariables false
section
variable {w : World} {s s' : Bool} {A A' : Option Addr} {n c n' c' : Nat} {xs ys : List Nat} {x y : Int} {L L' : Nat}
set_option maxHeartbeats 4000000 in
set_option maxRecDepth 100000 in
theorem wCmp_c (hx : ZZ w s A n c xs x L) (hy : ZZ w s' A' n' c' ys y L') (h1 : L ≤ 100000) (h2 : L' ≤ 100000) (v : Int) (hv : cmpZ x y = v) :
    Calls Try.prog 39 #[.agg #[.bool s, .slice A n c], .agg #[.bool s', .slice A' n' c']] w fun e w' => e = .returned (.int .i64 v) ∧ Below w.heap.size w w' := by
  have b0 := below_new w (.cells #[Value.bool s, Value.slice A n c] 25)
  have b1 := below_new (w.alloc (.cells #[Value.bool s, Value.slice A n c] 25)) (.cells #[Value.bool s', Value.slice A' n' c'] 25)
  have HW := Lib.hid (below_two b0 b1)
  have HN := Lib.hid (hx.below HW.out)
  have HM := Lib.hid (hy.below HW.out)
  have r0 := (row2_new w 25 (.bool s) (.slice A n c)).below b1
  have r1 := row2_new (w.alloc (.cells #[Value.bool s, Value.slice A n c] 25)) 25 (.bool s') (.slice A' n' c')
  simp only [World.size_alloc] at r1
  clear b0 b1 hx hy
  by_cases hx0 : x < 0
  · by_cases hy0 : y < 0
    · have hx2 : sg x = true := sg_neg hx0
      have hy2 : sg y = true := sg_neg hy0
      have HX2 := Lib.hid hx2
      have HY2 := Lib.hid hy2
      clear hx2 hy2
      have HV : RowKit.Hid (cmpI y.natAbs x.natAbs = v) := by
        show _ = _
        rw [← hv]; exact cmp_abs_neg hx0 hy0
      clear hv hx0 hy0
      go_enter Try.func39, Try.ntmps39
      go_wp2_with fail
      generalize (w.alloc (.cells #[Value.bool s, Value.slice A n c] 25)).alloc (.cells #[Value.bool s', Value.slice A' n' c'] 25) = w1 at *
      have HR0 := Lib.hid r0
      have HR1 := Lib.hid r1
      have c00 := r0.c0
      have c01 := r0.c1
      have c10 := r1.c0
      have c11 := r1.c1
      clear r0 r1
      refine (isBelow_c HN.out (by omega) true HX2.out).mono ?_
      rintro e w2 ⟨rfl, bn⟩
      replace HN := Lib.hid (HN.out.below bn)
      replace HM := Lib.hid (HM.out.below bn)
      replace HW := Lib.hid (below_two HW.out bn)
      replace HR0 := Lib.hid (HR0.out.below bn)
      replace HR1 := Lib.hid (HR1.out.below bn)
      clear bn c00 c01 c10 c11
      have c00 := HR0.out.c0
      have c01 := HR0.out.c1
      have c10 := HR1.out.c0
      have c11 := HR1.out.c1
      go_wp2_with fail
      refine (isBelow_c HM.out (by omega) true HY2.out).mono ?_
      rintro e w3 ⟨rfl, bn⟩
      replace HN := Lib.hid (HN.out.below bn)
      replace HM := Lib.hid (HM.out.below bn)
      replace HW := Lib.hid (below_two HW.out bn)
      replace HR0 := Lib.hid (HR0.out.below bn)
      replace HR1 := Lib.hid (HR1.out.below bn)
      clear bn c00 c01 c10 c11
      have c00 := HR0.out.c0
      have c01 := HR0.out.c1
      have c10 := HR1.out.c0
      have c11 := HR1.out.c1
      go_wp2_with fail
      refine (cmp_c HM.out.nn HN.out.nn (by omega) (by omega) v HV.out).mono ?_
      rintro e w9 ⟨rfl, bn⟩
      replace HW := Lib.hid (below_two HW.out bn)
      clear bn c00 c01 c10 c11
      go_wp2
      go_ret
      exact ⟨rfl, HW.out⟩
    · have hx2 : sg x = true := sg_neg hx0
      have hy2 : sg y = false := sg_pos (by omega)
      have HX2 := Lib.hid hx2
      have HY2 := Lib.hid hy2
      clear hx2 hy2
      obtain rfl : v = -1 := by rw [← hv]; exact cmpZ_lt (by omega)
      clear hv hx0 hy0
      go_enter Try.func39, Try.ntmps39
      go_wp2_with fail
      generalize (w.alloc (.cells #[Value.bool s, Value.slice A n c] 25)).alloc (.cells #[Value.bool s', Value.slice A' n' c'] 25) = w1 at *
      have HR0 := Lib.hid r0
      have HR1 := Lib.hid r1
      have c00 := r0.c0
      have c01 := r0.c1
      have c10 := r1.c0
      have c11 := r1.c1
      clear r0 r1
      refine (isBelow_c HN.out (by omega) true HX2.out).mono ?_
      rintro e w2 ⟨rfl, bn⟩
      replace HN := Lib.hid (HN.out.below bn)
      replace HM := Lib.hid (HM.out.below bn)
      replace HW := Lib.hid (below_two HW.out bn)
      replace HR0 := Lib.hid (HR0.out.below bn)
      replace HR1 := Lib.hid (HR1.out.below bn)
      clear bn c00 c01 c10 c11
      have c00 := HR0.out.c0
      have c01 := HR0.out.c1
      have c10 := HR1.out.c0
      have c11 := HR1.out.c1
      go_wp2_with fail
      refine (isBelow_c HM.out (by omega) false HY2.out).mono ?_
      rintro e w3 ⟨rfl, bn⟩
      replace HN := Lib.hid (HN.out.below bn)
      replace HM := Lib.hid (HM.out.below bn)
      replace HW := Lib.hid (below_two HW.out bn)
      replace HR0 := Lib.hid (HR0.out.below bn)
      replace HR1 := Lib.hid (HR1.out.below bn)
      clear bn c00 c01 c10 c11
      have c00 := HR0.out.c0
      have c01 := HR0.out.c1
      have c10 := HR1.out.c0
      have c11 := HR1.out.c1
      go_wp2_with fail
      refine (isBelow_c HN.out (by omega) true HX2.out).mono ?_
      rintro e w4 ⟨rfl, bn⟩
      replace HN := Lib.hid (HN.out.below bn)
      replace HM := Lib.hid (HM.out.below bn)
      replace HW := Lib.hid (below_two HW.out bn)
      replace HR0 := Lib.hid (HR0.out.below bn)
      replace HR1 := Lib.hid (HR1.out.below bn)
      clear bn c00 c01 c10 c11
      have c00 := HR0.out.c0
      have c01 := HR0.out.c1
      have c10 := HR1.out.c0
      have c11 := HR1.out.c1
      go_wp2
      go_ret
      exact ⟨rfl, HW.out⟩
  · by_cases hy0 : y < 0
    · have hx2 : sg x = false := sg_pos (by omega)
      have hy2 : sg y = true := sg_neg hy0
      have HX2 := Lib.hid hx2
      have HY2 := Lib.hid hy2
      clear hx2 hy2
      obtain rfl : v = 1 := by rw [← hv]; exact cmpZ_gt (by omega)
      clear hv hx0 hy0
      go_enter Try.func39, Try.ntmps39
      go_wp2_with fail
      generalize (w.alloc (.cells #[Value.bool s, Value.slice A n c] 25)).alloc (.cells #[Value.bool s', Value.slice A' n' c'] 25) = w1 at *
      have HR0 := Lib.hid r0
      have HR1 := Lib.hid r1
      have c00 := r0.c0
      have c01 := r0.c1
      have c10 := r1.c0
      have c11 := r1.c1
      clear r0 r1
      refine (isBelow_c HN.out (by omega) false HX2.out).mono ?_
      rintro e w2 ⟨rfl, bn⟩
      replace HN := Lib.hid (HN.out.below bn)
      replace HM := Lib.hid (HM.out.below bn)
      replace HW := Lib.hid (below_two HW.out bn)
      replace HR0 := Lib.hid (HR0.out.below bn)
      replace HR1 := Lib.hid (HR1.out.below bn)
      clear bn c00 c01 c10 c11
      have c00 := HR0.out.c0
      have c01 := HR0.out.c1
      have c10 := HR1.out.c0
      have c11 := HR1.out.c1
      go_wp2_with fail
      refine (isBelow_c HN.out (by omega) false HX2.out).mono ?_
      rintro e w3 ⟨rfl, bn⟩
      replace HN := Lib.hid (HN.out.below bn)
      replace HM := Lib.hid (HM.out.below bn)
      replace HW := Lib.hid (below_two HW.out bn)
      replace HR0 := Lib.hid (HR0.out.below bn)
      replace HR1 := Lib.hid (HR1.out.below bn)
      clear bn c00 c01 c10 c11
      have c00 := HR0.out.c0
      have c01 := HR0.out.c1
      have c10 := HR1.out.c0
      have c11 := HR1.out.c1
      go_wp2_with fail
      refine (isBelow_c HM.out (by omega) true HY2.out).mono ?_
      rintro e w4 ⟨rfl, bn⟩
      replace HN := Lib.hid (HN.out.below bn)
      replace HM := Lib.hid (HM.out.below bn)
      replace HW := Lib.hid (below_two HW.out bn)
      replace HR0 := Lib.hid (HR0.out.below bn)
      replace HR1 := Lib.hid (HR1.out.below bn)
      clear bn c00 c01 c10 c11
      have c00 := HR0.out.c0
      have c01 := HR0.out.c1
      have c10 := HR1.out.c0
      have c11 := HR1.out.c1
      go_wp2
      go_ret
      exact ⟨rfl, HW.out⟩
    · have hx2 : sg x = false := sg_pos (by omega)
      have hy2 : sg y = false := sg_pos (by omega)
      have HX2 := Lib.hid hx2
      have HY2 := Lib.hid hy2
      clear hx2 hy2
      have HV : RowKit.Hid (cmpI x.natAbs y.natAbs = v) := by
        show _ = _
        rw [← hv]; exact cmp_abs_pos (by omega) (by omega)
      clear hv hx0 hy0
      go_enter Try.func39, Try.ntmps39
      go_wp2_with fail
      generalize (w.alloc (.cells #[Value.bool s, Value.slice A n c] 25)).alloc (.cells #[Value.bool s', Value.slice A' n' c'] 25) = w1 at *
      have HR0 := Lib.hid r0
      have HR1 := Lib.hid r1
      have c00 := r0.c0
      have c01 := r0.c1
      have c10 := r1.c0
      have c11 := r1.c1
      clear r0 r1
      refine (isBelow_c HN.out (by omega) false HX2.out).mono ?_
      rintro e w2 ⟨rfl, bn⟩
      replace HN := Lib.hid (HN.out.below bn)
      replace HM := Lib.hid (HM.out.below bn)
      replace HW := Lib.hid (below_two HW.out bn)
      replace HR0 := Lib.hid (HR0.out.below bn)
      replace HR1 := Lib.hid (HR1.out.below bn)
      clear bn c00 c01 c10 c11
      have c00 := HR0.out.c0
      have c01 := HR0.out.c1
      have c10 := HR1.out.c0
      have c11 := HR1.out.c1
      go_wp2_with fail
      refine (isBelow_c HN.out (by omega) false HX2.out).mono ?_
      rintro e w3 ⟨rfl, bn⟩
      replace HN := Lib.hid (HN.out.below bn)
      replace HM := Lib.hid (HM.out.below bn)
      replace HW := Lib.hid (below_two HW.out bn)
      replace HR0 := Lib.hid (HR0.out.below bn)
      replace HR1 := Lib.hid (HR1.out.below bn)
      clear bn c00 c01 c10 c11
      have c00 := HR0.out.c0
      have c01 := HR0.out.c1
      have c10 := HR1.out.c0
      have c11 := HR1.out.c1
      go_wp2_with fail
      refine (isBelow_c HM.out (by omega) false HY2.out).mono ?_
      rintro e w4 ⟨rfl, bn⟩
      replace HN := Lib.hid (HN.out.below bn)
      replace HM := Lib.hid (HM.out.below bn)
      replace HW := Lib.hid (below_two HW.out bn)
      replace HR0 := Lib.hid (HR0.out.below bn)
      replace HR1 := Lib.hid (HR1.out.below bn)
      clear bn c00 c01 c10 c11
      have c00 := HR0.out.c0
      have c01 := HR0.out.c1
      have c10 := HR1.out.c0
      have c11 := HR1.out.c1
      go_wp2_with fail
      refine (cmp_c HN.out.nn HM.out.nn (by omega) (by omega) v HV.out).mono ?_
      rintro e w9 ⟨rfl, bn⟩
      replace HW := Lib.hid (below_two HW.out bn)
      clear bn c00 c01 c10 c11
      go_wp2
      go_ret
      exact ⟨rfl, HW.out⟩
end

end Go.Proofs.Ytmifgblbicnimaa

/- What package whole's Of answers, as a contract over memory: whole numbers in the shortest limbs, 0 not below 0. Conditions: sizes of at most so many limbs; the table of powers of ten where texts are made or read. -/
namespace Go.Proofs.Ytmifgblbicnimaa
open Go.RowKit Limb
set_option linter.unusedVariables false
set_option maxHeartbeats 4000000 in
set_option maxRecDepth 100000 in
theorem wOf_c (v : Int) (h0 : -9223372036854775808 ≤ v) (h1 : v ≤ 9223372036854775807) (w : World) :
    Calls Try.prog 40 #[.int .i64 v] w fun e w' => ∃ A2 n2 c2, e = .returned (.agg #[.bool (sg v), .slice A2 n2 c2]) ∧ ZZ w' (sg v) A2 n2 c2 (limbs v.natAbs) v 2 ∧ Below w.heap.size w w' := by
  have HW := Lib.hid (below_new w zbox)
  have HZ : RowKit.Hid (ZB (w.alloc zbox) w.heap.size) := row2_new w _ _ _
  by_cases hv0 : v < 0
  · obtain ⟨u, hu⟩ : ∃ u, u = v.natAbs := ⟨_, rfl⟩
    have hlt : u < 18446744073709551616 := by omega
    have ec : IntKind.u64.wrap v = v + 18446744073709551616 := by rw [conv_u64 h0 h1, if_pos hv0]
    have en : IntKind.u64.wrap (-(v + 18446744073709551616)) = (u : Int) := by rw [IntKind.wrap_u64]; omega
    have HS : RowKit.Hid (zOf true u = v) := by
      show _ = _
      rw [hu]; unfold zOf; simp; omega
    have HSd : RowKit.Hid (zOf (decide (v < 0)) u = v) := by
      show _ = _
      rw [hu]; exact zz_zof
    have HC := Lib.hid (of_c u _ rfl hlt (w.alloc zbox))
    clear hu h0 h1
    go_enter Try.func40, Try.ntmps40
    go_wp2_with fail
    refine HC.out.mono ?_
    rintro e w2 ⟨A2, n2, c2, rfl, h2, bn⟩
    have BN2 := Lib.hid bn
    clear bn
    go_wp2_with fail
    refine (signed_c h2 _ v (by first | exact HS.out | simpa using HS.out | exact HSd.out)).mono ?_
    rintro e w4 ⟨rfl, h4, bm⟩
    have BN4 := Lib.hid (below_two BN2.out bm)
    obtain ⟨e0, e1, f0, f1⟩ := (HZ.out.below BN4.out).cells
    have HF := Lib.hid ((HZ.out.below BN4.out).fill (.bool (sg v)) (.slice A2 n2 c2))
    have HP := Lib.hid (h4.put (HZ.out.below BN4.out) (.bool (sg v)) (.slice A2 n2 c2))
    have HB := Lib.hid (below_fill (g := w.heap.size) (below_two HW.out BN4.out) (by omega) (.bool (sg v)) (.slice A2 n2 c2))
    clear bm
    go_wp2
    refine bodyPost_ret (results_cell_row rfl _ _ (w.heap.size) 25 #[.bool (sg v), .slice A2 n2 c2] (0, 0) _ rfl HF.out Try.underlying25 rfl int_size) rfl ?_
    exact ⟨A2, n2, c2, rfl, HP.out, HB.out⟩
  · obtain ⟨u, hu⟩ : ∃ u, u = v.natAbs := ⟨_, rfl⟩
    have hlt : u < 18446744073709551616 := by omega
    have ec : IntKind.u64.wrap v = (u : Int) := by rw [conv_u64 h0 h1, if_neg hv0]; omega
    have hv1 : 0 ≤ v := by omega
    have HS : RowKit.Hid (zOf false u = v) := by
      show _ = _
      rw [hu]; unfold zOf; simp; omega
    have HSd : RowKit.Hid (zOf (decide (v < 0)) u = v) := by
      show _ = _
      rw [hu]; exact zz_zof
    have HC := Lib.hid (of_c u _ rfl hlt (w.alloc zbox))
    clear hu h0 h1 hv0
    go_enter Try.func40, Try.ntmps40
    go_wp2_with fail
    refine HC.out.mono ?_
    rintro e w2 ⟨A2, n2, c2, rfl, h2, bn⟩
    have BN2 := Lib.hid bn
    clear bn
    go_wp2_with fail
    refine (signed_c h2 _ v (by first | exact HS.out | simpa using HS.out | exact HSd.out)).mono ?_
    rintro e w4 ⟨rfl, h4, bm⟩
    have BN4 := Lib.hid (below_two BN2.out bm)
    obtain ⟨e0, e1, f0, f1⟩ := (HZ.out.below BN4.out).cells
    have HF := Lib.hid ((HZ.out.below BN4.out).fill (.bool (sg v)) (.slice A2 n2 c2))
    have HP := Lib.hid (h4.put (HZ.out.below BN4.out) (.bool (sg v)) (.slice A2 n2 c2))
    have HB := Lib.hid (below_fill (g := w.heap.size) (below_two HW.out BN4.out) (by omega) (.bool (sg v)) (.slice A2 n2 c2))
    clear bm
    go_wp2
    refine bodyPost_ret (results_cell_row rfl _ _ (w.heap.size) 25 #[.bool (sg v), .slice A2 n2 c2] (0, 0) _ rfl HF.out Try.underlying25 rfl int_size) rfl ?_
    exact ⟨A2, n2, c2, rfl, HP.out, HB.out⟩

end Go.Proofs.Ytmifgblbicnimaa

/- What package rat's Cmp, Sign, Neg, Same and Whole answer, as contracts over memory. Conditions: sizes of at most so many limbs. -/
namespace Go.Proofs.Ytmifgblbicnimaa
open Go.RowKit Limb
set_option linter.unusedVariables false
section
variable {w : World} {s s' : Bool} {A B A' B' : Option Addr} {n c m d n' c' m' d' : Nat} {xs ys xs' ys' : List Nat} {x y : Int} {o o' : Option Rat} {a b L L' : Nat}
set_option maxHeartbeats 4000000 in
set_option maxRecDepth 100000 in
theorem rCmp_c (hx : QQ w s A n c xs B m d ys o L) (hx' : QQ w s' A' n' c' xs' B' m' d' ys' o' L') (h1 : L ≤ 1000) (h2 : L' ≤ 1000) (v : Int) (hv : cmpR o o' = v) :
    Calls Try.prog 20 #[.agg #[.bool s, .slice A n c, .slice B m d], .agg #[.bool s', .slice A' n' c', .slice B' m' d']] w fun e w' => e = .returned (.int .i64 v) ∧ Below w.heap.size w w' := by
  cases o with
  | none =>
    obtain rfl : v = 0 := hv.symm
    clear hv
    have b0 := below_new w (.cells #[Value.bool s, Value.slice A n c, Value.slice B m d] 27)
    have b1 := below_new (w.alloc (.cells #[Value.bool s, Value.slice A n c, Value.slice B m d] 27)) (.cells #[Value.bool s', Value.slice A' n' c', Value.slice B' m' d'] 27)
    have HW := Lib.hid (below_two b0 b1)
    have HQ0 := Lib.hid (hx.below HW.out)
    have HQ1 := Lib.hid (hx'.below HW.out)
    have r0 := ((row3_new w 27 (.bool s) (.slice A n c) (.slice B m d)).below b1)
    have r1 := (row3_new (w.alloc (.cells #[Value.bool s, Value.slice A n c, Value.slice B m d] 27)) 27 (.bool s') (.slice A' n' c') (.slice B' m' d'))
    simp only [World.size_alloc] at r1
    clear b0 b1 hx hx'
    go_enter Try.func20, Try.ntmps20
    go_wp2_with fail
    generalize (w.alloc (.cells #[Value.bool s, Value.slice A n c, Value.slice B m d] 27)).alloc (.cells #[Value.bool s', Value.slice A' n' c', Value.slice B' m' d'] 27) = w1 at *
    have HR0 := Lib.hid r0
    have HR1 := Lib.hid r1
    clear r0 r1
    refine (rGood_c HQ0.out (by omega) false rfl).mono ?_
    rintro e w2 ⟨rfl, bn⟩
    replace HQ0 := Lib.hid (HQ0.out.below bn)
    replace HR0 := Lib.hid (HR0.out.below bn)
    replace HQ1 := Lib.hid (HQ1.out.below bn)
    replace HR1 := Lib.hid (HR1.out.below bn)
    replace HW := Lib.hid (below_two HW.out bn)
    clear bn
    go_wp2
    go_ret
    exact ⟨rfl, HW.out⟩
  | some p =>
    cases o' with
    | none =>
      obtain rfl : v = 0 := hv.symm
      clear hv
      have b0 := below_new w (.cells #[Value.bool s, Value.slice A n c, Value.slice B m d] 27)
      have b1 := below_new (w.alloc (.cells #[Value.bool s, Value.slice A n c, Value.slice B m d] 27)) (.cells #[Value.bool s', Value.slice A' n' c', Value.slice B' m' d'] 27)
      have HW := Lib.hid (below_two b0 b1)
      have HQ0 := Lib.hid (hx.below HW.out)
      have HQ1 := Lib.hid (hx'.below HW.out)
      have r0 := ((row3_new w 27 (.bool s) (.slice A n c) (.slice B m d)).below b1)
      have r1 := (row3_new (w.alloc (.cells #[Value.bool s, Value.slice A n c, Value.slice B m d] 27)) 27 (.bool s') (.slice A' n' c') (.slice B' m' d'))
      simp only [World.size_alloc] at r1
      clear b0 b1 hx hx'
      go_enter Try.func20, Try.ntmps20
      go_wp2_with fail
      generalize (w.alloc (.cells #[Value.bool s, Value.slice A n c, Value.slice B m d] 27)).alloc (.cells #[Value.bool s', Value.slice A' n' c', Value.slice B' m' d'] 27) = w1 at *
      have HR0 := Lib.hid r0
      have HR1 := Lib.hid r1
      clear r0 r1
      refine (rGood_c HQ0.out (by omega) true rfl).mono ?_
      rintro e w2 ⟨rfl, bn⟩
      replace HQ0 := Lib.hid (HQ0.out.below bn)
      replace HR0 := Lib.hid (HR0.out.below bn)
      replace HQ1 := Lib.hid (HQ1.out.below bn)
      replace HR1 := Lib.hid (HR1.out.below bn)
      replace HW := Lib.hid (below_two HW.out bn)
      clear bn
      have c10 := HR1.out.c0
      have c11 := HR1.out.c1
      have c12 := HR1.out.c2
      go_wp2_with fail
      clear c10 c11 c12
      refine (rGood_c HQ1.out (by omega) false rfl).mono ?_
      rintro e w2 ⟨rfl, bn⟩
      replace HQ0 := Lib.hid (HQ0.out.below bn)
      replace HR0 := Lib.hid (HR0.out.below bn)
      replace HQ1 := Lib.hid (HQ1.out.below bn)
      replace HR1 := Lib.hid (HR1.out.below bn)
      replace HW := Lib.hid (below_two HW.out bn)
      clear bn
      go_wp2
      go_ret
      exact ⟨rfl, HW.out⟩
    | some q =>
      have HV : RowKit.Hid (cmpZ (p.num * (q.den : Int)) (q.num * (p.den : Int)) = v) := hv
      clear hv
      have b0 := below_new w (.cells #[Value.bool s, Value.slice A n c, Value.slice B m d] 27)
      have b1 := below_new (w.alloc (.cells #[Value.bool s, Value.slice A n c, Value.slice B m d] 27)) (.cells #[Value.bool s', Value.slice A' n' c', Value.slice B' m' d'] 27)
      have HW := Lib.hid (below_two b0 b1)
      have HQ0 := Lib.hid (hx.below HW.out)
      have HQ1 := Lib.hid (hx'.below HW.out)
      have r0 := ((row3_new w 27 (.bool s) (.slice A n c) (.slice B m d)).below b1)
      have r1 := (row3_new (w.alloc (.cells #[Value.bool s, Value.slice A n c, Value.slice B m d] 27)) 27 (.bool s') (.slice A' n' c') (.slice B' m' d'))
      simp only [World.size_alloc] at r1
      clear b0 b1 hx hx'
      go_enter Try.func20, Try.ntmps20
      go_wp2_with fail
      generalize (w.alloc (.cells #[Value.bool s, Value.slice A n c, Value.slice B m d] 27)).alloc (.cells #[Value.bool s', Value.slice A' n' c', Value.slice B' m' d'] 27) = w1 at *
      have HR0 := Lib.hid r0
      have HR1 := Lib.hid r1
      clear r0 r1
      refine (rGood_c HQ0.out (by omega) true rfl).mono ?_
      rintro e w2 ⟨rfl, bn⟩
      replace HQ0 := Lib.hid (HQ0.out.below bn)
      replace HR0 := Lib.hid (HR0.out.below bn)
      replace HQ1 := Lib.hid (HQ1.out.below bn)
      replace HR1 := Lib.hid (HR1.out.below bn)
      replace HW := Lib.hid (below_two HW.out bn)
      clear bn
      have c10 := HR1.out.c0
      have c11 := HR1.out.c1
      have c12 := HR1.out.c2
      go_wp2_with fail
      clear c10 c11 c12
      refine (rGood_c HQ1.out (by omega) true rfl).mono ?_
      rintro e wS ⟨rfl, bn⟩
      replace HQ0 := Lib.hid (HQ0.out.below bn)
      replace HR0 := Lib.hid (HR0.out.below bn)
      replace HQ1 := Lib.hid (HQ1.out.below bn)
      replace HR1 := Lib.hid (HR1.out.below bn)
      replace HW := Lib.hid (below_two HW.out bn)
      clear bn
      have HX := Lib.hid HQ0.out.some.2.2.2.2.1
      have HY := Lib.hid HQ0.out.some.2.2.2.2.2.1
      have HX1 := Lib.hid HQ1.out.some.2.2.2.2.1
      have HY1 := Lib.hid HQ1.out.some.2.2.2.2.2.1
      go_wp2_with fail
      refine region_free 7 1 [13, 14, 15, 16, 17, 18, 19] ?aF10 (fun wx => Below wS.heap.size wS wx) (fun k vv wx => match k with
          | 0 => vv = .agg #[.bool s, .slice A n c, .slice B m d]
          | 1 => vv = .agg #[.bool s', .slice A' n' c', .slice B' m' d']
          | 2 => ∃ (e0 : Option Addr) (e1 : Nat) (e2 : Nat), vv = .agg #[.bool (sg (p.num * (q.den : Int))), .slice e0 e1 e2] ∧ ZZ wx (sg (p.num * (q.den : Int))) e0 e1 e2 (limbs (p.num * (q.den : Int)).natAbs) (p.num * (q.den : Int)) 128
          | 3 => vv = .agg #[.bool s', .slice A' n' c', .slice B' m' d']
          | 4 => vv = .agg #[.bool s, .slice A n c, .slice B m d]
          | 5 => ∃ (e0 : Option Addr) (e1 : Nat) (e2 : Nat), vv = .agg #[.bool (sg (q.num * (p.den : Int))), .slice e0 e1 e2] ∧ ZZ wx (sg (q.num * (p.den : Int))) e0 e1 e2 (limbs (q.num * (p.den : Int)).natAbs) (q.num * (p.den : Int)) 128
          | _ => vv = .int .i64 v)
        (fun k => false) (by kernel_rfl) ?haF10 rfl (by kernel_rfl) (by kernel_rfl) (fun _ _ _ _ _ h => h) ?hSb10 ?hPb10 ?hS10 ?hop10 ?hfin10
      case haF10 =>
        intro vals
        simp only [fillAll, List.getElem?_cons_zero, List.getElem?_cons_succ, Act.put, List.setIfInBounds_toArray, List.set_cons_zero, List.set_cons_succ]
        exact rfl
      case hSb10 => exact fun wx w2 hb hS => below_two hS hb
      case hPb10 =>
        intro k v wa wb hb h
        match k, h with
        | 0, h => exact h
        | 1, h => exact h
        | 2, ⟨e0, e1, e2, h1, g0⟩ => exact ⟨e0, e1, e2, h1, g0.below hb⟩
        | 3, h => exact h
        | 4, h => exact h
        | 5, ⟨e0, e1, e2, h1, g0⟩ => exact ⟨e0, e1, e2, h1, g0.below hb⟩
        | _ + 6, h => exact h
      case hS10 => exact (Below.refl _ _).drew
      case hop10 =>
        refine .cons (k := 0) ?_ (.cons (k := 1) ?_ (.cons (k := 2) ?_ (.cons (k := 3) ?_ (.cons (k := 4) ?_ (.cons (k := 5) ?_ (.cons (k := 6) ?_ (.nil)))))))
        all_goals intro vals wr hS hd KC hK
        all_goals (show Oper.wp _ _ _ _ _ _; dsimp only)
        · have z0 := (HR0.out.below hS).c0
          have z1 := (HR0.out.below hS).c1
          have z2 := (HR0.out.below hS).c2
          go_simp
          refine hK _ _ rfl (Below.refl _ _) (by first | rfl | simp) (fun h => by cases h)
        · have z0 := (HR1.out.below hS).c0
          have z1 := (HR1.out.below hS).c1
          have z2 := (HR1.out.below hS).c2
          go_simp
          refine hK _ _ rfl (Below.refl _ _) (by first | rfl | simp) (fun h => by cases h)
        · have d0 : vals 0 = _ := hd 0 (by decide +kernel)
          have d1 : vals 1 = _ := hd 1 (by decide +kernel)
          rw [d0, d1]
          go_simp
          go_at_call 45
          with_reducible refine (rCross_c (HX.out.below hS) (HY1.out.below hS) (by decide) (by decide) (p.num * (q.den : Int)) rfl).mono ?_
          rintro e w2 ⟨r0, r1, r2, rfl, f0, bn_r⟩
          refine hK _ _ rfl bn_r ⟨_, _, _, rfl, f0⟩ (fun h => by cases h)
        · have z0 := (HR1.out.below hS).c0
          have z1 := (HR1.out.below hS).c1
          have z2 := (HR1.out.below hS).c2
          go_simp
          refine hK _ _ rfl (Below.refl _ _) (by first | rfl | simp) (fun h => by cases h)
        · have z0 := (HR0.out.below hS).c0
          have z1 := (HR0.out.below hS).c1
          have z2 := (HR0.out.below hS).c2
          go_simp
          refine hK _ _ rfl (Below.refl _ _) (by first | rfl | simp) (fun h => by cases h)
        · have d3 : vals 3 = _ := hd 3 (by decide +kernel)
          have d4 : vals 4 = _ := hd 4 (by decide +kernel)
          rw [d3, d4]
          go_simp
          go_at_call 45
          with_reducible refine (rCross_c (HX1.out.below hS) (HY.out.below hS) (by decide) (by decide) (q.num * (p.den : Int)) rfl).mono ?_
          rintro e w2 ⟨r0, r1, r2, rfl, f0, bn_r⟩
          refine hK _ _ rfl bn_r ⟨_, _, _, rfl, f0⟩ (fun h => by cases h)
        · obtain ⟨A_2_0, n_2_1, n_2_2, d2, h_2_0⟩ := hd 2 (by decide +kernel)
          obtain ⟨A_5_0, n_5_1, n_5_2, d5, h_5_0⟩ := hd 5 (by decide +kernel)
          rw [d2, d5]
          go_simp
          go_at_call 39
          with_reducible refine (wCmp_c h_2_0 h_5_0 (by decide) (by decide) v HV.out).mono ?_
          rintro e w2 ⟨rfl, bn_r⟩
          refine hK _ _ rfl bn_r rfl (fun h => by cases h)
      case hfin10 =>
        intro vals wr hS hP hne
        have ez_6 : vals 6 = _ := hP 6 (by decide)
        have HB := Lib.hid (below_two HW.out hS)
        try dsimp only
        rw [ez_6]
        refine wpAny_ready (rs := [7]) (by kernel_rfl) (by simp) (AllReady.cons rfl (fun KC hK => ?_) AllReady.nil)
        go_simp
        refine hK _ _ ?_
        clear hK KC
        refine wpAny_done (by kernel_rfl) ?_ _
        go_wp2
        go_ret
        exact ⟨rfl, HB.out⟩

set_option maxHeartbeats 4000000 in
set_option maxRecDepth 100000 in
theorem rSign_c (hx : QQ w s A n c xs B m d ys o L) (h1 : L ≤ 1000) (v : Int) (hv : cmpR o (some 0) = v) :
    Calls Try.prog 17 #[.agg #[.bool s, .slice A n c, .slice B m d]] w fun e w' => e = .returned (.int .i64 v) ∧ Below w.heap.size w w' := by
  cases o with
  | none =>
    obtain rfl : v = 0 := hv.symm
    clear hv
    have b0 := below_new w (.cells #[Value.bool s, Value.slice A n c, Value.slice B m d] 27)
    have HW := Lib.hid b0
    have HQ0 := Lib.hid (hx.below HW.out)
    have r0 := ((row3_new w 27 (.bool s) (.slice A n c) (.slice B m d)))
    clear b0 hx
    go_enter Try.func17, Try.ntmps17
    go_wp2_with fail
    generalize w.alloc (.cells #[Value.bool s, Value.slice A n c, Value.slice B m d] 27) = w1 at *
    have HR0 := Lib.hid r0
    clear r0
    refine (rGood_c HQ0.out (by omega) false rfl).mono ?_
    rintro e w2 ⟨rfl, bn⟩
    replace HQ0 := Lib.hid (HQ0.out.below bn)
    replace HR0 := Lib.hid (HR0.out.below bn)
    replace HW := Lib.hid (below_two HW.out bn)
    clear bn
    go_wp2
    go_ret
    exact ⟨rfl, HW.out⟩
  | some p =>
    have HV : RowKit.Hid (cmpZ p.num 0 = v) := by
      show _ = _
      rw [← cmpQ_top]; exact hv
    clear hv
    have b0 := below_new w (.cells #[Value.bool s, Value.slice A n c, Value.slice B m d] 27)
    have HW := Lib.hid b0
    have HQ0 := Lib.hid (hx.below HW.out)
    have r0 := ((row3_new w 27 (.bool s) (.slice A n c) (.slice B m d)))
    clear b0 hx
    go_enter Try.func17, Try.ntmps17
    go_wp2_with fail
    generalize w.alloc (.cells #[Value.bool s, Value.slice A n c, Value.slice B m d] 27) = w1 at *
    have HR0 := Lib.hid r0
    clear r0
    refine (rGood_c HQ0.out (by omega) true rfl).mono ?_
    rintro e wS ⟨rfl, bn⟩
    replace HQ0 := Lib.hid (HQ0.out.below bn)
    replace HR0 := Lib.hid (HR0.out.below bn)
    replace HW := Lib.hid (below_two HW.out bn)
    clear bn
    have HX := Lib.hid HQ0.out.some.2.2.2.2.1
    have HY := Lib.hid HQ0.out.some.2.2.2.2.2.1
    have Hf := Lib.hid HQ0.out.some.2.2.2.1
    have c00 := HR0.out.c0
    have c01 := HR0.out.c1
    have c02 := HR0.out.c2
    go_wp2_with fail
    clear c00 c01 c02
    refine (wCmp_c HX.out (zz_none _) (by decide) (by decide) v HV.out).mono ?_
    rintro e w3 ⟨rfl, bn⟩
    replace HW := Lib.hid (below_two HW.out bn)
    clear bn
    go_wp2
    go_ret
    exact ⟨rfl, HW.out⟩

end
set_option maxHeartbeats 4000000 in
set_option maxRecDepth 100000 in
theorem rWhole_c (v : Int) (h0 : -9223372036854775808 ≤ v) (h1 : v ≤ 9223372036854775807) (w : World) :
    Calls Try.prog 18 #[.int .i64 v] w fun e w' => ∃ A2 n2 c2 B2 m2 d2, e = .returned (.agg #[.bool (sg (oTop (some (v : Rat)))), .slice A2 n2 c2, .slice B2 m2 d2]) ∧ QT w' A2 n2 c2 B2 m2 d2 (some (v : Rat)) ∧ Below w.heap.size w w' := by
  have HW := Lib.hid (below_new w (.cells #[Value.bool false, Value.slice none 0 0, Value.slice none 0 0] 27))
  have HZ := Lib.hid (row3_new w 27 (.bool false) (.slice none 0 0) (.slice none 0 0))
  go_enter Try.func18, Try.ntmps18
  go_wp2_with fail
  refine (wOf_c v h0 h1 _).mono ?_
  rintro e w2 ⟨A2, n2, c2, rfl, h2, bn⟩
  have H2 := Lib.hid h2
  replace HZ := Lib.hid (HZ.out.below bn)
  replace HW := Lib.hid (below_two HW.out bn)
  clear h2 bn
  go_wp2_with fail
  refine (of_c 1 1 rfl (by decide) _).mono ?_
  rintro e w3 ⟨A4, n4, c4, rfl, h4, bn⟩
  replace H2 := Lib.hid (H2.out.below bn)
  replace HZ := Lib.hid (HZ.out.below bn)
  replace HW := Lib.hid (below_two HW.out bn)
  have HL := Lib.hid h4
  clear h4 bn
  have hNo := HZ.out.noLimb (by intro v e; cases e) (by intro v e; cases e) (by intro v e; cases e)
  have e0 := HZ.out.c0
  have e1 := HZ.out.c1
  have e2 := HZ.out.c2
  have f0 := HZ.out.free 0
  have f1 := HZ.out.free 1
  have f2 := HZ.out.free 2
  have HF := Lib.hid (HZ.out.fill (.bool (sg v)) (.slice A2 n2 c2) (.slice A4 n4 c4))
  have HP1 := Lib.hid (H2.out.fillR3 hNo (.bool (sg v)) (.slice A2 n2 c2) (.slice A4 n4 c4))
  have HP2 := Lib.hid (HL.out.fillR3 hNo (.bool (sg v)) (.slice A2 n2 c2) (.slice A4 n4 c4))
  have HB := Lib.hid (below_fill3' HW.out (Nat.le_refl _) (.bool (sg v)) (.slice A2 n2 c2) (.slice A4 n4 c4))
  clear hNo H2 HL
  go_wp2
  refine bodyPost_ret (results_cell_row rfl _ _ w.heap.size 27 #[.bool (sg v), .slice A2 n2 c2, .slice A4 n4 c4] (0, 0) _ rfl HF.out Try.underlying27 rfl rat_size) rfl ?_
  exact ⟨A2, n2, c2, _, _, _, rfl, qt_some (q := (v : Rat)) HP1.out HP2.out (whole_fits h0 h1), HB.out⟩

end Go.Proofs.Ytmifgblbicnimaa

/- What the statements' helper By of layer 7 answers, as a contract over memory. Conditions: two numbers of a machine whose quotient has room. -/
namespace Go.Proofs.Ytmifgblbicnimaa
open Go.RowKit Limb
set_option linter.unusedVariables false
theorem refQWhole_is (v : Int) (h0 : -9223372036854775808 ≤ v) (h1 : v ≤ 9223372036854775807) (q : Rat) (hq : (v : Rat) = q) (w : World) : Calls Try.prog 26 #[.int .i64 v] w fun e w' => ∃ A2 n2 c2 B2 m2 d2, e = .returned (.agg #[.bool (sg (oTop (some q))), .slice A2 n2 c2, .slice B2 m2 d2]) ∧ QT w' A2 n2 c2 B2 m2 d2 (some q) ∧ Below w.heap.size w w' := by
  subst hq; exact refQWhole_c v h0 h1 w
theorem rWhole_is (v : Int) (h0 : -9223372036854775808 ≤ v) (h1 : v ≤ 9223372036854775807) (q : Rat) (hq : (v : Rat) = q) (w : World) : Calls Try.prog 18 #[.int .i64 v] w fun e w' => ∃ A2 n2 c2 B2 m2 d2, e = .returned (.agg #[.bool (sg (oTop (some q))), .slice A2 n2 c2, .slice B2 m2 d2]) ∧ QT w' A2 n2 c2 B2 m2 d2 (some q) ∧ Below w.heap.size w w' := by
  subst hq; exact rWhole_c v h0 h1 w

set_option maxHeartbeats 4000000 in
set_option maxRecDepth 100000 in
theorem by_c (a b : Int) (a0 : -9223372036854775808 ≤ a) (a1 : a ≤ 9223372036854775807) (b0 : -9223372036854775808 ≤ b) (b1 : b ≤ 9223372036854775807) (q : Rat) (hq : divR (some (a : Rat)) (some (b : Rat)) = (some q, 0)) (w : World) :
    Calls Try.prog 21 #[.int .i64 a, .int .i64 b] w fun e w' => ∃ A2 n2 c2 B2 m2 d2, e = .returned (.agg #[.bool (sg (oTop (some q))), .slice A2 n2 c2, .slice B2 m2 d2]) ∧ QT w' A2 n2 c2 B2 m2 d2 (some q) ∧ Below w.heap.size w w' := by
  have bw := below_new w (.cells #[Value.bool false, Value.slice none 0 0, Value.slice none 0 0] 27)
  have h_rz := row3_new w 27 (.bool false) (.slice none 0 0) (.slice none 0 0)
  obtain ⟨p, ep⟩ : ∃ p : Rat, (a : Rat) = p := ⟨_, rfl⟩
  obtain ⟨r, er⟩ : ∃ r : Rat, (b : Rat) = r := ⟨_, rfl⟩
  rw [ep, er] at hq
  have ep := Lib.hid ep
  have er := Lib.hid er
  have hq := Lib.hid hq
  have a0 := Lib.hid a0
  have a1 := Lib.hid a1
  have b0 := Lib.hid b0
  have b1 := Lib.hid b1
  go_enter Try.func21, Try.ntmps21
  go_wp2_with fail
  generalize w.alloc (.cells #[Value.bool false, Value.slice none 0 0, Value.slice none 0 0] 27) = w1 at *
  obtain ⟨q_z, eg⟩ : ∃ g, g = w.heap.size := ⟨_, rfl⟩
  have hqz : RowKit.Hid (w.heap.size ≤ q_z) := by show _ ≤ _; omega
  rw [← eg] at h_rz ⊢
  clear eg
  refine (refQWhole_is a a0.out a1.out _ ep.out _).mono ?_
  rintro e w1 ⟨A_a, n_a, c_a, B_a, m_a, d_a, rfl, h_a, bn⟩
  replace h_rz := h_rz.below bn
  replace bw := below_two bw bn
  clear bn
  go_wp2_with fail
  refine (refQWhole_is b b0.out b1.out _ er.out _).mono ?_
  rintro e w2 ⟨A_b, n_b, c_b, B_b, m_b, d_b, rfl, h_b, bn⟩
  replace h_rz := h_rz.below bn
  replace h_a := h_a.below bn
  replace bw := below_two bw bn
  clear bn
  go_wp2_with fail
  refine (refQDiv_c h_a h_b (by decide) (by decide) _ _ hq.out).mono ?_
  rintro e w3 ⟨A_g, n_g, c_g, B_g, m_g, d_g, rfl, h_g, bn⟩
  replace h_rz := h_rz.below bn
  replace h_a := h_a.below bn
  replace h_b := h_b.below bn
  replace bw := below_two bw bn
  clear bn
  have h_rgg := row4_new w3 35 (.bool (sg (oTop (some q)))) (.slice A_g n_g c_g) (.slice B_g m_g d_g) (.int .i64 0)
  have bn := below_new w3 (.cells #[Value.bool (sg (oTop (some q))), Value.slice A_g n_g c_g, Value.slice B_g m_g d_g, Value.int .i64 0] 35)
  replace h_rz := h_rz.below bn
  replace h_a := h_a.below bn
  replace h_b := h_b.below bn
  replace h_g := h_g.below bn
  replace bw := below_two bw bn
  clear bn
  have hNo := h_rz.noLimb (by intro v e; cases e) (by intro v e; cases e) (by intro v e; cases e)
  have e0 := h_rz.c0
  have f0 := h_rz.free 0
  have e1 := h_rz.c1
  have f1 := h_rz.free 1
  have e2 := h_rz.c2
  have f2 := h_rz.free 2
  have y0 := h_rgg.c0
  have y1 := h_rgg.c1
  have y2 := h_rgg.c2
  have y3 := h_rgg.c3
  have HF := Lib.hid (h_rz.fill (.bool (sg (oTop (some q)))) (.slice A_g n_g c_g) (.slice B_g m_g d_g))
  have HP := Lib.hid (QQ.fillR3 h_g hNo (.bool (sg (oTop (some q)))) (.slice A_g n_g c_g) (.slice B_g m_g d_g))
  have HB := Lib.hid (below_fill3' bw hqz.out (.bool (sg (oTop (some q)))) (.slice A_g n_g c_g) (.slice B_g m_g d_g))
  clear hNo
  go_wp2
  refine bodyPost_ret (results_cell_row rfl _ _ _ 27 #[.bool (sg (oTop (some q))), .slice A_g n_g c_g, .slice B_g m_g d_g] (0, 0) _ rfl HF.out Try.underlying27 rfl rat_size) rfl ?_
  exact ⟨A_g, n_g, c_g, B_g, m_g, d_g, rfl, HP.out, HB.out⟩

end Go.Proofs.Ytmifgblbicnimaa
