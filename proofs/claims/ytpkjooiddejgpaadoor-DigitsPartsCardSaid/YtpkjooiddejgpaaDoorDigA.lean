/- What package digits' groups and appendGroup answer, as contracts over memory, where its table of powers of ten reads as it is laid. Condition: the table (Tab), at most 10000 limbs. -/
import Derived.Test.YtpkjooiddejgpaaDoorDigM
import Derived.Test.YtpkjooiddejgpaaDoorQuoA
import Derived.Test.YtpkjooiddejgpaaDoorMulF
import Derived.RangeFuncOwn
import Derived.Lib.AtoiErrMem
namespace Go.Proofs.YtpkjooiddejgpaaDoor
open Go.RowKit Limb
set_option linter.unusedVariables false

/-- The table of powers of ten reads as it is laid; the sentinel of strconv is an error. -/
def Tab (w : World) : Prop := (∀ i, i < 10 → w.cell? ⟨0, i, none⟩ = some (.int .u32 ((10 ^ i : Nat) : Int))) ∧ ∃ te pe, w.cell? ⟨1, 0, none⟩ = some (.iface te pe)
theorem Tab.below {w w' : World} (h : Tab w) (hb : Below w.heap.size w w') : Tab w' := by
  obtain ⟨h1, te, pe, h2⟩ := h
  exact ⟨fun i hi => (hb.cell (p := ⟨0, i, none⟩) (Lib.lt_of_cell (h1 i hi))).trans (h1 i hi), te, pe, (hb.cell (p := ⟨1, 0, none⟩) (Lib.lt_of_cell h2)).trans h2⟩
theorem Tab.lt {w : World} (h : Tab w) : 0 < w.heap.size := Lib.lt_of_cell (h.1 0 (by decide))

/-- How long a slice is. -/
def lenOf (v : Value) : Nat := match v with
  | .slice _ n _ => n
  | _ => 0

/-- append of one limb to a row of the call's own, nil too: the literal of one limb lies in a new block. -/
theorem wpList_append_word {w : World} {ops : Array Oper} {rest : List Oper} {o : Oper} {a : Act} {Q : Exit → Act → World → Prop} (hgd : o.guard = none) (s x : Operand)
    (ho : o.op = .call { callee := .builtin .append, args := #[s, x], argTypes := #[22, 22] })
    (base : Nat) (v : Value) (n : Nat) (xs : List Nat) (hs : a.eval s = v) (hown : Hid (w.ownsRow base 39 1 v n (xs.map limV)))
    (g : Nat) (hx : a.eval x = .slice (some ⟨g, 0, none⟩) 1 1) (y : Nat) (hy : Hid (w.cell? ⟨g, 0, none⟩ = some (.int .u32 (y : Int)) ∧ y < 4294967296)) (hb : Hid (n ≤ 1000000000 ∧ base ≤ w.heap.size ∧ Small xs))
    (h : ∀ A2 c2 w', Hid (OwnN w' base A2 (n + 1) c2 (xs ++ [y])) → Hid (w.grownBy w' v.ownBlock) → wpList Tryd.prog ops Q rest (a.put o.dst (.slice A2 (n + 1) c2)) w') : wpList Tryd.prog ops Q (o :: rest) a w := by
  obtain ⟨i0, hi, hz0, hz1, hz2⟩ := info_parts u32_info
  obtain ⟨h1, h3, h4⟩ := hb.out
  refine wpList_append_read hgd s x 22 ho base 39 i0 (.int .u32 0) 4 Tryd.underlying22 hi hz0 hz1 hz2 rfl v n (xs.map limV) hs hown.out (some ⟨g, 0, none⟩) 1 1 ([y].map limV) hx rfl ?_ (oneCell_u32 [y]) (by unfold maxLen; omega) (by omega) h3 ?_
  · intro _
    refine ⟨_, rfl, fun j u hu => ?_⟩
    obtain ⟨hj, rfl⟩ := map_u32_get hu
    obtain rfl : j = 0 := by simpa using hj
    have e : (⟨g, 0, none⟩ : Addr).add 0 = ⟨g, 0, none⟩ := by unfold Addr.add; split <;> simp_all
    rw [e]
    exact hy.out.1
  · intro v' w' hown' hg
    rw [← List.map_append] at hown'
    obtain ⟨A2, c2, rfl, how⟩ := shape_own hown' (small_append.2 ⟨h4, by intro z hz; simp at hz; subst hz; exact hy.out.2⟩)
    exact h A2 c2 w' how hg

/-- What an append to a row of limbs of the call's own leaves of what was there before the call. -/
theorem below_grownN {w0 w w' : World} {A : Option Addr} {n c : Nat} {zs : List Nat} {o : Obj} (hb : Below w0.heap.size w0 w) (how : OwnN w w0.heap.size A n c zs) (hg : (w.alloc o).grownBy w' (Value.ownBlock (.slice A n c))) : Below w0.heap.size w0 w' :=
  (hb.alloc hb.size o).grown hg (by have := hb.size; simp; omega) (fun k hk => (how.1.lt k hk).1)
/-- .. of what lay below a bound. -/
theorem below_grownC {C : Nat} {w0 w w' : World} {A : Option Addr} {n c : Nat} {zs : List Nat} {o : Obj} (hb : Below C w0 w) (hC : C ≤ w.heap.size) (how : OwnB w C A n c zs) (hg : (w.alloc o).grownBy w' (Value.ownBlock (.slice A n c))) : Below C w0 w' :=
  (hb.alloc hC o).grown hg (by simp; omega) (fun k hk => (how.1.lt k hk).1)
/-- .. of whatever is no cells. -/
theorem others_grownB {w0 w w' : World} {B : Nat} {A : Option Addr} {n c : Nat} {zs : List Nat} {o : Obj} (hk : KeepsOthers w0 w) (how : OwnB w B A n c zs) (hg : (w.alloc o).grownBy w' (Value.ownBlock (.slice A n c))) : KeepsOthers w0 w' := by
  refine hk.trans ((KeepsOthers.alloc w o).trans (KeepsOthers.of_grownBy hg fun j ob e ho => ?_))
  have hlt := (how.1.lt j e).2
  rcases how.1.2 with ⟨hv, _⟩ | ⟨g, cap, cur, hv, hB, hh, _⟩
  · injection hv with hA; subst hA; cases e
  · injection hv with hA; subst hA
    injection e with e; subst e
    have h2 := (Below.heap_alloc w o g (Array.getElem?_eq_some_iff.1 hh).1).trans hh
    rw [h2] at ho
    injection ho with ho; subst ho; rfl

set_option maxHeartbeats 2000000 in
set_option maxRecDepth 4000 in
/-- appendGroup: nine digits behind the row. -/
theorem appendGroup_c {w : World} {B : Nat} {A : Option Addr} {n c : Nat} {zs : List Nat} (T : Tab w) (hB : OwnB w B A n c zs) (hBw : B ≤ w.heap.size) (h0 : 0 < B) (hn : n ≤ 900000000) (v : Nat) (hv : v < 1000000000) :
    Calls Tryd.prog 29 #[.slice A n c, .int .u32 (v : Int)] w fun e w' => ∃ A2 c2, e = .returned (.slice A2 (n + 9) c2) ∧ OwnB w' B A2 (n + 9) c2 (zs ++ pad 9 v) ∧ Below B w w' ∧ KeepsOthers w w' := by
  have HT := Lib.hid T
  have HB := Lib.hid hB
  have HK := Lib.hid (KeepsOthers.refl w)
  have HW := Lib.hid (Below.refl B w)
  have HC := Lib.hid hBw
  have H0 := Lib.hid h0
  have HP : RowKit.Hid (zs ++ pad 0 (v / 10 ^ 9) = zs) := by show _ = _; simp [pad]
  clear T hB hBw h0
  go_enter Tryd.func29, Tryd.ntmps29
  go_wp2
  go_loopw [5, 0] (fun pv tv wr => ∃ (j : Nat) (A2 : Option Addr) (c2 : Nat), j ≤ 9 ∧ pv = .int .i64 (8 - (j : Int)) ∧ tv = .slice A2 (n + j) c2 ∧ RowKit.Hid (OwnB wr B A2 (n + j) c2 (zs ++ pad j (v / 10 ^ (9 - j)))) ∧ RowKit.Hid (Below B w wr) ∧ RowKit.Hid (KeepsOthers w wr)) (fun pv _ _ => (intOf pv + 1).toNat)
  case atStart => exact ⟨0, A, c, by decide, rfl, rfl, by show OwnB _ _ _ _ _ _; rw [show 9 - 0 = 9 from rfl, HP.out]; exact HB.out, HW, HK⟩
  case round =>
    clear HB HW HK HP
    obtain ⟨j, A2, c2, hj, rfl, rfl, HB, HW, HK⟩ := hrel
    by_cases h9 : j = 9
    · subst h9
      go_wp2
      go_ret
      exact ⟨A2, c2, rfl, by have := HB.out; rwa [show 9 - 9 = 0 from rfl, Nat.pow_zero, Nat.div_one] at this, HW.out, HK.out⟩
    · obtain ⟨p, hp⟩ : ∃ p, j + p = 8 := ⟨8 - j, by omega⟩
      have ep : (8 : Int) - (j : Int) = (p : Int) := by omega
      have hp9 : p < 10 := by omega
      have hcell : wr.cell? ⟨0, p, none⟩ = some (.int .u32 ((10 ^ p : Nat) : Int)) := (HW.out.cell (p := ⟨0, p, none⟩) H0.out).trans (HT.out.1 p hp9)
      have Hst := pad_step j p v
      rw [show p + 1 = 9 - j by omega] at Hst
      obtain ⟨q, hq⟩ : ∃ q, q = 10 ^ p := ⟨_, rfl⟩
      have hqp : 0 < q := by rw [hq]; exact Nat.pow_pos (by decide)
      rw [← hq] at hcell Hst
      have hq0 : ((q : Int) != 0) = true := by simp; omega
      have hq1 : ((q : Int) == 0) = false := by simp; omega
      obtain ⟨z, hz⟩ : ∃ z, z = v / q := ⟨_, rfl⟩
      have hzl : z < 1000000000 := by rw [hz]; exact Nat.lt_of_le_of_lt (Nat.div_le_self _ _) hv
      have e1 : (v : Int) / (q : Int) = (z : Int) := by rw [hz]; simp
      rw [← hz] at Hst
      have HZ : RowKit.Hid (v / 10 ^ p = z) := by show _ = _; rw [hz, hq]
      obtain ⟨m, hm⟩ : ∃ m, m = z % 10 := ⟨_, rfl⟩
      have hml : m < 10 := by omega
      have e2 : (z : Int) % 10 = (m : Int) := by omega
      rw [← hm] at Hst
      have HS : RowKit.Hid (pad (j + 1) z = pad j (v / 10 ^ (9 - j)) ++ [48 + m]) := Hst
      rw [ep]
      clear hq hz hm Hst ep
      have Hown : RowKit.Hid ((wr.alloc (.cells #[Value.int IntKind.u8 (48 + (m : Int))] 5)).ownsRow B 5 1 (.slice A2 (n + j) c2) (n + j) ((zs ++ pad j (v / 10 ^ (9 - j))).map byV)) := (HB.out.alloc _).row
      have Hlit : RowKit.Hid ((wr.alloc (.cells #[Value.int IntKind.u8 (48 + (m : Int))] 5)).cell? ⟨wr.heap.size, 0, none⟩ = some (.int .u8 ((48 + m : Nat) : Int)) ∧ 48 + m < 256) := ⟨by rw [World.cell?_alloc_at _ _ _ _ rfl]; rfl, by omega⟩
      have Hb : RowKit.Hid (n + j ≤ 1000000000 ∧ B ≤ (wr.alloc (.cells #[Value.int IntKind.u8 (48 + (m : Int))] 5)).heap.size ∧ Bytes (zs ++ pad j (v / 10 ^ (9 - j)))) := ⟨by omega, by have h1 := HW.out.size; have h2 := HC.out; simp; omega, HB.out.bytes⟩
      go_wp2_with (at_builtin; refine wpList_append_byte rfl _ _ rfl B _ (n + j) _ rfl Hown wr.heap.size rfl (48 + m) Hlit Hb ?_)
      intro A3 c3 w3 how3 hg3
      have HW3 := Lib.hid (below_grownC HW.out (Nat.le_trans HC.out HW.out.size) HB.out hg3.out)
      have HK3 := Lib.hid (others_grownB HK.out HB.out hg3.out)
      have HB3 : RowKit.Hid (OwnB w3 B A3 (n + (j + 1)) c3 (zs ++ pad (j + 1) (v / 10 ^ (9 - (j + 1))))) := by
        show OwnB _ _ _ _ _ _
        rw [show 9 - (j + 1) = p by omega, HZ.out, HS.out]
        simpa only [List.append_assoc, Nat.add_assoc] using how3.out
      clear hg3 how3 Hown Hlit Hb HB HW HK
      go_wp2
      go_roundw
      case rel => exact ⟨j + 1, A3, c3, by omega, by go_num, by rw [Nat.add_assoc], HB3, HW3, HK3⟩
      case measure => simp [intOf] <;> omega

set_option maxHeartbeats 2000000 in
set_option maxRecDepth 4000 in
/-- groups: the number nine digits by nine, the lowest first. -/
theorem groups_c {w : World} {A : Option Addr} {n c : Nat} {xs : List Nat} {a L : Nat} (T : Tab w) (hx : NN w A n c xs a L) (h1 : L ≤ 10000) :
    Calls Tryd.prog 28 #[.slice A n c] w fun e w' => ∃ A2 n2 c2 gs, e = .returned (.slice A2 n2 c2) ∧ OwnN w' w.heap.size A2 n2 c2 gs ∧ GInv a gs 0 ∧ n2 ≤ 2 * L + 1 ∧ Below w.heap.size w w' := by
  have HT := Lib.hid T
  have Hlt := Lib.hid (lt_pow hx)
  have Hx := Lib.hid hx
  have HG := Lib.hid (GInv.start a)
  have HW := Lib.hid (Below.refl w.heap.size w)
  have Hle : RowKit.Hid (a = Limb.val xs ∧ xs.length = n) := ⟨hx.val.symm, hx.isN.len⟩
  have H0 : RowKit.Hid ((a ≠ 0 ∨ ([] : List Nat) = []) ∨ n = 0) := .inl (.inr rfl)
  clear T hx
  go_enter Tryd.func28, Tryd.ntmps28
  go_wp2
  go_loopw [0, 3] (fun av ov wr => ∃ (m k : Nat) (ys gs : List Nat) (A1 : Option Addr) (n1 c1 : Nat) (A2 : Option Addr) (c2 : Nat), av = .slice A1 n1 c1 ∧ ov = .slice A2 k c2 ∧ RowKit.Hid (GInv a gs m) ∧ RowKit.Hid (OwnN wr w.heap.size A2 k c2 gs) ∧ RowKit.Hid (NN wr A1 n1 c1 ys m L) ∧ RowKit.Hid (gs = [] ∨ ys = limbs m) ∧ RowKit.Hid (Below w.heap.size w wr)) (fun av _ wr => readN wr av + lenOf av)
  case atStart => exact ⟨a, 0, xs, [], A, n, c, none, 0, rfl, rfl, HG, OwnN.nil _ _, Hx, .inl rfl, HW⟩
  case round =>
    clear HG Hx HW Hle H0
    obtain ⟨m, k, ys, gs, A1, n1, c1, A2, c2, rfl, rfl, HG, HO, HX, HY, HW⟩ := hrel
    by_cases h0 : n1 = 0
    · subst h0
      go_wp2
      go_ret
      have hm : m = 0 := by
        have h2 := HX.out.val
        have h3 := HX.out.isN.len
        rw [List.eq_nil_of_length_eq_zero h3] at h2
        exact h2.symm
      subst hm
      have hk := HO.out.len
      have hl := HG.out.len Hlt.out
      exact ⟨A2, k, c2, gs, rfl, HO.out, HG.out, by omega, HW.out⟩
    · have hpos : (0 : Int) < (n1 : Int) := by omega
      have hcell : wr.cell? ⟨0, 9, none⟩ = some (.int .u32 1000000000) := (HW.out.cell (p := ⟨0, 9, none⟩) HT.out.lt).trans (HT.out.1 9 (by decide))
      have hl := HG.out.len Hlt.out
      have hk2 := HO.out.len
      have hk9 : k ≤ 1000000000 := by omega
      have hm0 : m ≠ 0 ∨ gs = [] := by
        rcases HY.out with h2 | h2
        · exact .inr h2
        · refine .inl fun h3 => h0 ?_
          have h4 := HX.out.isN.len
          rw [h2, h3, limbs_zero] at h4
          exact h4.symm
      have Hst := Lib.hid (HG.out.step hm0)
      obtain ⟨r, hr⟩ : ∃ r, r = m % 1000000000 := ⟨_, rfl⟩
      have hrl : r < 4294967296 := by have := Nat.mod_lt m (show 1000000000 > 0 by decide); omega
      rw [← hr] at Hst
      have HR := Lib.hid hr
      clear hl hk2 hm0 HG hr
      go_wp2_with fail
      refine (quoSmall_o HX.out (by omega) 1000000000 _ rfl (by decide) (by decide)).mono ?_
      rintro e w2 ⟨A3, n3, c3, rfl, hq, bn⟩
      rw [← HR.out]
      have HQ := Lib.hid hq
      have Hrow := Lib.hid (fun k hk => (HO.out.1.lt k hk).2)
      have HO2 := Lib.hid (HO.out.below bn (Nat.le_refl _))
      have HW2 := Lib.hid (below_two HW.out bn)
      have Hm : RowKit.Hid (readN wr (.slice A1 n1 c1) = m ∧ m < 4294967296 ^ n1) := ⟨by rw [readN_eq HX.out.isN, HX.out.val], by have h2 := val_lt HX.out.isN.small; rwa [HX.out.val, HX.out.isN.len] at h2⟩
      have Hq := Lib.hid (Nat.lt_of_le_of_lt (Nat.div_le_self m 1000000000) (lt_pow HX.out))
      clear hq bn HO HW HX HY hcell HR
      have Hown : RowKit.Hid ((w2.alloc (.cells #[Value.int IntKind.u32 (r : Int)] 39)).ownsRow w.heap.size 39 1 (.slice A2 k c2) k (gs.map limV)) := (HO2.out.1.alloc _)
      have Hlit : RowKit.Hid ((w2.alloc (.cells #[Value.int IntKind.u32 (r : Int)] 39)).cell? ⟨w2.heap.size, 0, none⟩ = some (.int .u32 (r : Int)) ∧ r < 4294967296) := ⟨by rw [World.cell?_alloc_at _ _ _ _ rfl]; rfl, hrl⟩
      have Hb : RowKit.Hid (k ≤ 1000000000 ∧ w.heap.size ≤ (w2.alloc (.cells #[Value.int IntKind.u32 (r : Int)] 39)).heap.size ∧ Small gs) := ⟨hk9, by have := HW2.out.size; simp; omega, HO2.out.small⟩
      go_wp2_with (at_builtin; refine wpList_append_word rfl _ _ rfl w.heap.size _ k gs rfl Hown w2.heap.size rfl r Hlit Hb ?_)
      intro A5 c5 w3 how3 hg3
      have HW3 := Lib.hid (below_grownN HW2.out HO2.out hg3.out)
      have HQ3 := Lib.hid (NN.own (HQ.out.keeps hg3.out Hrow.out) Hq.out)
      have HM : RowKit.Hid (readN w3 (.slice A3 n3 c3) + n3 < readN wr (.slice A1 n1 c1) + n1) := by
        show _ < _
        rw [readN_eq HQ3.out.isN, Hm.out.1, val_limbs]
        have h2 := HQ3.out.isN.len
        rcases Nat.eq_zero_or_pos m with h3 | h3
        · rw [h3, Nat.zero_div, limbs_zero] at h2
          rw [h3, ← h2]; simp; omega
        · have h4 := Nat.div_lt_self h3 (show 1 < 1000000000 by decide)
          have h5 := length_limbs_le (Nat.lt_trans h4 Hm.out.2)
          rw [h2] at h5
          omega
      clear hg3 Hown Hlit Hb HO2 HW2 HQ Hrow Hq Hm
      go_wp2
      go_roundw
      case rel => exact ⟨m / 1000000000, k + 1, _, gs ++ [r], A3, n3, c3, A5, c5, rfl, rfl, Hst, how3, HQ3, .inr rfl, HW3⟩
      case measure => exact HM.out

end Go.Proofs.YtpkjooiddejgpaaDoor
