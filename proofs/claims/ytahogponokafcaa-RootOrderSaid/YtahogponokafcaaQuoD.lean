/- What package quo's divide answers, as a contract over memory: the quotient in its shortest limbs, and what is left. Conditions: both read as limbs; the divisor has two limbs or more, its highest bit set, and is not longer than the number; at most 10^8 limbs. -/
import Derived.Test.YtahogponokafcaaQuoC
import Derived.Test.YtahogponokafcaaMulB
import Derived.Deep.RegionLaw
import Derived.Deep.RegionWith
namespace Go.Proofs.Ytahogponokafcaa
open Go.RowKit Limb
set_option linter.unusedVariables false

/-- copy of limbs into a row of the call's own, as one step of a region that draws its order. -/
theorem step_copy_nat {w : World} {ops : Array Oper} {o : Oper} {a : Act} {K : Act → World → Prop} {Q : Exit → Act → World → Prop} {E : Prop} (hgd : o.guard = none) (d s : Operand)
    (ho : o.op = .call { callee := .builtin .copy, args := #[d, s], argTypes := #[23, 23] })
    (g off dLen dCap : Nat) (sp : Option Addr) (sLen sCap : Nat) (hd : a.eval d = .slice (some ⟨g, off, none⟩) dLen dCap) (hs : a.eval s = .slice sp sLen sCap)
    (B n : Nat) (zs : List Nat) (hown : Hid (OwnN w B (some ⟨g, 0, none⟩) n n zs)) (ys : List Nat) (hy : Hid (IsN w sp sLen ys)) (hlen : Hid (0 < sLen ∧ sLen ≤ dLen ∧ off + sLen ≤ n))
    (h : ∀ w', Hid (OwnN w' B (some ⟨g, 0, none⟩) n n (lay zs off ys)) → Hid (Others g w w') → Hid (∀ w0, Below B w0 w → Below B w0 w') → K (a.put o.dst (goInt sLen)) w') :
    if Region.wanted o (yielded ops a.tmps) = true then Oper.wp Try.prog o a w K Q else E := by
  have hw : Region.wanted o (yielded ops a.tmps) = true := by simp [Region.wanted, hgd]
  rw [if_pos hw]
  have hyl := hy.out.len
  obtain ⟨h0, h1, h2⟩ := hlen.out
  obtain ⟨b, ob, rfl, hb1, hcell⟩ := hy.out.2.2 (by omega)
  have hzl := hown.out.len
  rcases hown.out.1.2 with ⟨hv, _⟩ | ⟨g2, cap, cur, hv, hg, hh, h3, h4, h5, h6⟩
  · cases hv
  · injection hv with e1 e2 e3
    injection e1 with e1
    injection e1 with e1
    subst e1
    subst e3
    rw [Nat.mul_one] at h5 h6
    have hcur : cur.toList = zs.map limV := by rw [← h6, List.take_of_length_le (by simp [h5])]
    have hb : ∀ w0, Below B w0 w → Below B w0 (w.setRow g (cur.toList.take off ++ ((ys.map limV) ++ cur.toList.drop (off + (ys.map limV).length))).toArray) := fun w0 hb => below_setRow hb hg _
    have ho' : Others g w (w.setRow g (cur.toList.take off ++ ((ys.map limV) ++ cur.toList.drop (off + (ys.map limV).length))).toArray) := fun k hk => setRow_other w g k _ hk
    have hn : OwnN (w.setRow g (cur.toList.take off ++ ((ys.map limV) ++ cur.toList.drop (off + (ys.map limV).length))).toArray) B (some ⟨g, 0, none⟩) n n (lay zs off ys) := by
      have hl2 : (lay zs off ys).length = n := by rw [lay_length (by omega), hzl]
      refine ⟨⟨by simp [hl2], .inr ⟨g, n, _, rfl, hg, setRow_heap w g _ _ _ _ hh, Nat.le_refl _, h4, ?_, ?_⟩⟩, lay_small hown.out.small hy.out.small⟩
      · rw [hcur]; simp; omega
      · rw [hcur, List.take_of_length_le (by simp; omega)]
        simp [lay, List.map_append, List.map_take, List.map_drop]
    have e2 : goInt (ys.map limV).length = goInt sLen := by rw [List.length_map, hyl]
    have hrun := run_copy_row (P := Try.prog) w 23 23 o.type 30 g off dLen dCap ⟨b, ob, none⟩ sLen sCap cur 30 (ys.map limV) Try.underlying23 u32_size hh (by rw [List.length_map, hyl]; exact (Nat.min_eq_left h1).symm) ?_ ?_ (oneCell_u32 ys)
    · unfold Oper.wp
      simp only [execOp, ho, resolve, invoke, builtin, Sem.run_bind, Sem.run_pure, Result.andThen_ok, List.map_toArray, List.map_cons, List.map_nil, hd, hs, hrun]
      rw [e2, List.append_assoc]
      exact h _ hn ho' hb
    · intro j v hv
      obtain ⟨hj, rfl⟩ := map_u32_get hv
      have e : (⟨b, ob, none⟩ : Addr).add j = ⟨b, ob + j, none⟩ := by unfold Addr.add; split <;> simp_all
      rw [e]
      exact hcell j (by omega)
    · rw [h5]; simp; omega

theorem lay_start (xs : List Nat) (m : Nat) (h : xs.length + 1 = m) : lay (List.replicate (m + 1) 0) 0 xs = xs ++ [0, 0] := by
  simp only [lay, List.take_zero, List.nil_append, Nat.zero_add, List.drop_replicate]
  rw [show m + 1 - xs.length = 2 by omega]
  rfl

/-- Moved up by one limb, with another one below. -/
theorem lay_up (rs : List Nat) (m x : Nat) (h : rs.length = m + 1) : (lay rs 1 (rs.take m)).set 0 x = x :: rs.take m := by
  cases rs with
  | nil => simp at h
  | cons r rs => simp [lay]; simp at h; omega

set_option maxHeartbeats 2000000 in
theorem divide_any (A : Option Addr) (n c : Nat) (xs : List Nat) (A' : Option Addr) (m c' : Nat) (ys : List Nat) (w : World) (hx : IsN w A n xs) (hy : IsN w A' m ys) (hn : n ≤ 100000000) (hc : n ≤ c) (hm2 : 2 ≤ m) (hmn : m ≤ n) (hh : 2147483648 ≤ lim ys (m - 1)) :
    Calls Try.prog 45 #[.slice A n c, .slice A' m c'] w fun e w' => ∃ A1 n1 c1 A2 c2 zs, e = .returned (.tuple #[.slice A1 n1 c1, .slice A2 m c2]) ∧ OwnN w' w.heap.size A1 n1 c1 (limbs (val xs / val ys)) ∧
      (OwnN w' w.heap.size A2 m c2 zs ∧ val zs = val xs % val ys) ∧ Below w.heap.size w w' := by
  obtain ⟨s, hs⟩ : ∃ s, s = n - m + 1 := ⟨_, rfl⟩
  have es : (n : Int) - (m : Int) + 1 = (s : Int) := by omega
  have hs1 : s + m = n + 1 := by omega
  clear hs
  obtain ⟨b1, o1, rfl, hb1, hc1⟩ := hx.2.2 (by omega)
  have hsrc : IsN w (some ⟨b1, o1 + s, none⟩) (m - 1) (xs.drop s) := by
    refine ⟨by rw [List.length_drop, hx.len]; omega, small_drop hx.small _, fun _ => ⟨b1, o1 + s, rfl, hb1, fun j hj => ?_⟩⟩
    rw [lim_drop, Nat.add_assoc]
    exact hc1 (s + j) (by omega)
  have e1 : n - s = m - 1 := by omega
  have hsn : s < n := by omega
  have hmk1 := run_made ((m : Int) + 1) (m + 1) (by omega) (by omega)
  have hmk2 := run_made (s : Int) s rfl (by omega)
  have b2 := below_new w (.cells (madeCells #[.int .u32 0] (m + 1)) 30)
  have Hs := Lib.hid (own_made w (m + 1) (by omega))
  have Hu := Lib.hid (hsrc.below b2)
  have Hb2 := Lib.hid b2
  have Hlen2 : RowKit.Hid (m - 1 ≤ m + 1 ∧ 0 + (m - 1) ≤ m + 1) := ⟨by omega, by omega⟩
  have Hst := Lib.hid (DivInv.start hx.small (by rw [hx.len]; exact hs1) hm2 hy.len (by omega : 0 < lim ys (m - 1)))
  have Hlay := Lib.hid (lay_start (xs.drop s) m (by rw [hsrc.len]; omega))
  have Hxl := Lib.hid hx.len
  have hsx := hx.small
  clear b2 hsrc
  go_enter Try.func45, Try.ntmps45
  go_wp2_with (with_reducible refine wpList_copy_nat rfl (.tmp 20) (.tmp 23) rfl w.heap.size 0 (m + 1) (m + 1) (some ⟨b1, o1 + s, none⟩) (m - 1) (c - s) rfl rfl w.heap.size (m + 1) (List.replicate (m + 1) 0) Hs (xs.drop s) Hu Hlen2 ?_)
  intro w3 Ho Hoth Hbel
  rw [Hlay.out] at Ho
  have Hb3 := Lib.hid (Hbel.out w Hb2.out)
  clear Hs Hu Hb2 Hlen2 Hoth Hbel hmk1 Hlay
  have b4 := below_new w3 (.cells (madeCells #[.int .u32 0] s) 30)
  have Hq := Lib.hid ((own_made w3 s (by omega)).mono Hb3.out.size)
  have Hr := Lib.hid (Ho.out.below b4 (Nat.le_refl _))
  have Hb4 := Lib.hid (below_two Hb3.out b4)
  obtain ⟨g2, hg2⟩ : ∃ g2, g2 = w3.heap.size := ⟨_, rfl⟩
  have hgg : w.heap.size < g2 := by
    obtain ⟨g', e, _, h⟩ := Ho.out.addr (by omega)
    injection e with e; injection e with e; subst e; omega
  have Hg2 := Lib.hid hg2
  rw [← hg2] at Hq
  clear b4 Ho Hb3 hg2
  go_wp2
  rw [← Hg2.out]
  have HR := Hr
  go_loopw [9] (fun i wr => ∃ (k : Nat) (rs qs : List Nat), k ≤ s ∧ i = .int .i64 ((k : Int) - 1) ∧ RowKit.Hid (DivInv xs ys rs qs m k) ∧ RowKit.Hid (OwnN wr w.heap.size (some ⟨w.heap.size, 0, none⟩) (m + 1) (m + 1) rs) ∧
    RowKit.Hid (OwnN wr w.heap.size (some ⟨g2, 0, none⟩) s s qs) ∧ RowKit.Hid (Below w.heap.size w wr)) (fun i _ => (intOf i + 1).toNat)
  case atStart => exact ⟨s, _, _, Nat.le_refl _, rfl, Hst, Hr, Hq, Hb4⟩
  case round =>
    clear Hst Hr Hq Hb4 HR hmk2
    obtain ⟨k, rs, qs, hk, rfl, Hinv, Hr, Hq, Hb⟩ := hrel
    by_cases hk0 : k = 0
    · subst hk0
      have hd := Hinv.out.done
      have Hd1 := Lib.hid hd.1
      have hr0 := Hr.out.take (m := m) (by omega)
      have Hr0 := Lib.hid hr0
      have Hd2 := Lib.hid hd.2
      have hz := Hq.out.isN
      have hsz := Hq.out.small
      have Hbs := Lib.hid Hb.out.size
      clear hd hr0 Hinv Hr
      have hle2 : (m : Int) ≤ (m : Int) + 1 := by omega
      go_wp2
      go_region_with (go_at_call 18; refine (trim_any (some ⟨g2, 0, none⟩) s s qs _ (hz.below (Below.refl _ _).drew) (Nat.le_refl _) (by omega)).mono ?_; rintro e w5 ⟨A1, n1, c1, rfl, how, hb5⟩)
      all_goals
        have How : RowKit.Hid (OwnN w5 w.heap.size A1 n1 c1 (limbs (val xs / val ys))) := by
          rw [trim_eq_limbs hsz, Hd1.out] at how
          exact how.mono Hbs.out
        have Hr9 : RowKit.Hid (OwnN w5 w.heap.size (some ⟨w.heap.size, 0, none⟩) m (m + 1) (rs.take m)) := Hr0.out.below (C := wr.heap.size) ((Below.refl wr.heap.size wr).drew.trans hb5) (Nat.le_refl _)
        have HW : RowKit.Hid (Below w.heap.size w w5) := Hb.out.trans (((Below.refl wr.heap.size wr).drew.trans hb5).mono Hbs.out)
        clear how hb5 hz hsz Hq Hb Hr0
        go_wp2
        go_ret2
        exact ⟨_, _, _, _, _, rs.take m, rfl, How.out, ⟨Hr9.out, Hd2.out⟩, HW.out⟩
    · obtain ⟨j, rfl⟩ : ∃ j, k = j + 1 := ⟨k - 1, by omega⟩
      have ej : ((j + 1 : Nat) : Int) - 1 = (j : Int) := by omega
      rw [ej]
      have Hr1 : RowKit.Hid (OwnN wr.drew w.heap.size (some ⟨w.heap.size, 0, none⟩) (m + 1) (m + 1) rs) := Hr.out.below (C := _) (Below.refl _ _).drew (Nat.le_refl _)
      have Hq1 : RowKit.Hid (OwnN wr.drew w.heap.size (some ⟨g2, 0, none⟩) s s qs) := Hq.out.below (C := _) (Below.refl _ _).drew (Nat.le_refl _)
      have Hb1 : RowKit.Hid (Below w.heap.size w wr.drew) := Hb.out.drew
      have Hsrc := Lib.hid ((Hr1.out.isN).take (m := m) (by omega))
      have Hl2 : RowKit.Hid (0 < m ∧ m ≤ m ∧ 1 + m ≤ m + 1) := ⟨by omega, by omega, by omega⟩
      have Hrl := Lib.hid Hr.out.len
      have hle : 1 ≤ (m : Int) + 1 := by omega
      have hle2 : (m : Int) ≤ (m : Int) + 1 := by omega
      have hm0 : m ≠ 0 := by omega
      clear ej Hr Hq Hb
      go_wp2
      go_region_law ((refine step_copy_nat rfl (.tmp 34) (.tmp 37) rfl w.heap.size 1 m m (some ⟨w.heap.size, 0, none⟩) m (m + 1) (by simp [Act.eval, Act.put]) (by simp [Act.eval, Act.put]) w.heap.size (m + 1) rs Hr1 (rs.take m) Hsrc Hl2 ?_; intro w4 Hr4 Ho4 Hbel4))
      all_goals
        have Hb4 := Lib.hid (Hbel4.out w Hb1.out)
        have Hq4 : RowKit.Hid (OwnN w4 w.heap.size (some ⟨g2, 0, none⟩) s s qs) := Hq1.out.others Ho4.out (by intro b o t e; injection e with e; injection e with e; omega)
        have l1 := lim_lt hsx j
        have hcx : w4.cell? ⟨b1, o1 + j, none⟩ = some (.int .u32 ((lim xs j : Nat) : Int)) := (Hb4.out.cell (p := ⟨b1, o1 + j, none⟩) hb1).trans (hc1 j (by omega))
        have f4 := Hr4.out.1.frozenAt 0
        have c4 := Hr4.out.cell (k := 0) (by omega)
        have Hset : RowKit.Hid (OwnN (w4.setCell ⟨w.heap.size, 0, none⟩ (.int .u32 ((lim xs j : Nat) : Int))) w.heap.size (some ⟨w.heap.size, 0, none⟩) (m + 1) (m + 1) (lim xs j :: rs.take m)) := by
          have h := Hr4.out.set 0 l1
          rw [lay_up rs m _ Hrl.out] at h
          exact h
        have Hb5 : RowKit.Hid (Below w.heap.size w (w4.setCell ⟨w.heap.size, 0, none⟩ (.int .u32 ((lim xs j : Nat) : Int)))) := Hb4.out.setCell (by exact Nat.le_refl _) _
        have Hq5 : RowKit.Hid (OwnN (w4.setCell ⟨w.heap.size, 0, none⟩ (.int .u32 ((lim xs j : Nat) : Int))) w.heap.size (some ⟨g2, 0, none⟩) s s qs) := Hq4.out.others ((Others.refl w.heap.size w4).setCell 0 _) (by intro b o t e; injection e with e; injection e with e; omega)
        have hlt := Hinv.out.lt l1
        have hb0 : 0 < val ys := Nat.lt_of_le_of_lt (Nat.zero_le _) Hinv.out.2
        obtain ⟨q, hq⟩ : ∃ q, val (lim xs j :: rs.take m) / val ys = q := ⟨_, rfl⟩
        have hq4 : q < 4294967296 := by rw [← hq, Nat.div_lt_iff_lt_mul hb0, Nat.mul_comm]; exact hlt
        have Hlt := Lib.hid hlt
        have Hqe := Lib.hid hq
        have hm9 : m ≤ 1000000000 := by omega
        clear Ho4 Hbel4 Hb1 Hq1 Hr1 Hsrc Hl2 Hb4 Hq4 Hr4 hlt hq hb0
        go_wp2_with fail
        refine (takeOut_any w _ Hb5.out w.heap.size m (m + 1) _ Hset.out A' c' ys hy hm2 hm9 hh Hlt.out q Hqe.out).mono ?_
        rintro e w6 ⟨rfl, ⟨zs, hz, hv⟩, hb6, ho6⟩
        have Hq6 : RowKit.Hid (OwnN w6 w.heap.size (some ⟨g2, 0, none⟩) s s qs) := Hq5.out.others ho6 (by intro b o t e; injection e with e; injection e with e; omega)
        have f6 := Hq6.out.1.frozenAt j
        have c6 := Hq6.out.cell (k := j) (by omega)
        have Hq7 := Lib.hid (Hq6.out.set j hq4)
        have Hr7 : RowKit.Hid (OwnN (w6.setCell ⟨g2, j, none⟩ (.int .u32 (q : Int))) w.heap.size (some ⟨w.heap.size, 0, none⟩) (m + 1) (m + 1) zs) := hz.others ((Others.refl g2 w6).setCell j _) (by intro b o t e; injection e with e; injection e with e; omega)
        have Hb7 : RowKit.Hid (Below w.heap.size w (w6.setCell ⟨g2, j, none⟩ (.int .u32 (q : Int)))) := hb6.setCell (by exact Nat.le_of_lt hgg) _
        have Hst : RowKit.Hid (DivInv xs ys zs (qs.set j q) m j) := by
          have h := Hinv.out.step (by rw [Hxl.out]; omega) (by rw [Hq6.out.len]; omega) hv
          rw [Hqe.out] at h
          exact h
        clear hz hv hb6 ho6 Hq6 Hq5 Hb5 Hset Hlt Hqe Hinv
        go_wp2
        go_roundw
        case rel => exact ⟨j, zs, qs.set j q, by omega, by go_num, Hst, Hr7, Hq7, Hb7⟩
        case measure => simp [intOf] <;> omega

end Go.Proofs.Ytahogponokafcaa
