/- What package mul's Of answers, as a contract over memory: the product of the numbers that both lists tell, in its shortest limbs, in new memory. Conditions: both read as limbs, of at most 10^8 of them. -/
import Derived.Test.YtpkjooiddejgpaaDoorMulA
namespace Go.Proofs.YtpkjooiddejgpaaDoor
open Go.RowKit Limb
set_option linter.unusedVariables false

/-- Making a row of limbs. -/
theorem run_made (V : Int) (n : Nat) (hV : V = n) (hn : n ≤ 2000000000) (W : World) : (Instr.makeSlice 23 (.int .i64 V) (.int .i64 V)).run Tryd.prog W = .ok (.slice (some ⟨W.heap.size, 0, none⟩) n n) (W.alloc (.cells (madeCells #[.int .u32 0] n) 39)) := by
  subst hV
  obtain ⟨i0, hi, hz0, hz1, hz2⟩ := info_parts u32_info
  have h := run_make (P := Tryd.prog) W 23 39 i0 (.int .u32 0) Tryd.underlying23 hi hz0 .i64 .i64 (n : Int) (n : Int) (by omega) (by omega) (by rw [hz2]; omega) (by omega)
  rw [hz1] at h
  rw [Int.toNat_natCast, Nat.mul_one] at h
  exact h

/-- A row that was made just now. -/
theorem own_made (w : World) (n : Nat) (hn : n ≤ 2000000000) : OwnN (w.alloc (.cells (madeCells #[.int .u32 0] n) 39)) w.heap.size (some ⟨w.heap.size, 0, none⟩) n n (List.replicate n 0) := by
  have Hg : (w.alloc (.cells (madeCells #[.int .u32 0] n) 39)).heap[w.heap.size]? = some (.cells (List.replicate n (Value.int .u32 0)).toArray 39 (0, 0)) := by
    rw [heap_alloc_new, ← toList_madeCells_one]
  refine ⟨⟨by simp, .inr ⟨w.heap.size, n, _, rfl, Nat.le_refl _, Hg, Nat.le_refl _, by unfold maxLen; omega, ?_, ?_⟩⟩, small_zeros _⟩
  · simp
  · simp [limV]

/-- A part of a row of the call's own, from a place on. -/
theorem OwnN.tail {w : World} {B g n c : Nat} {zs : List Nat} (h : OwnN w B (some ⟨g, 0, none⟩) n c zs) (k : Nat) (hk : k < n) : IsN w (some ⟨g, k, none⟩) (n - k) (zs.drop k) := by
  have hl := h.len
  obtain ⟨b, o, e, hb, hc⟩ := h.isN.2.2 (by omega)
  injection e with e; injection e with e1 e2; subst e1; subst e2
  refine ⟨by simp; omega, small_drop h.small _, fun _ => ⟨g, k, rfl, hb, fun j hj => ?_⟩⟩
  rw [lim_drop]
  have := hc (k + j) (by omega)
  rwa [Nat.zero_add] at this

/-- copy of limbs into a row of the call's own, from a place on. -/
theorem wpList_copy_nat {w : World} {ops : Array Oper} {rest : List Oper} {o : Oper} {a : Act} {Q : Exit → Act → World → Prop} (hgd : o.guard = none) (d s : Operand)
    (ho : o.op = .call { callee := .builtin .copy, args := #[d, s], argTypes := #[23, 23] })
    (g off dLen dCap : Nat) (sp : Option Addr) (sLen sCap : Nat) (hd : a.eval d = .slice (some ⟨g, off, none⟩) dLen dCap) (hs : a.eval s = .slice sp sLen sCap)
    (B n : Nat) (zs : List Nat) (hown : Hid (OwnN w B (some ⟨g, 0, none⟩) n n zs)) (ys : List Nat) (hy : Hid (IsN w sp sLen ys)) (hlen : Hid (sLen ≤ dLen ∧ off + sLen ≤ n))
    (h : ∀ w', Hid (OwnN w' B (some ⟨g, 0, none⟩) n n (lay zs off ys)) → Hid (Others g w w') → Hid (∀ w0, Below B w0 w → Below B w0 w') → wpList Tryd.prog ops Q rest (a.put o.dst (goInt sLen)) w') :
    wpList Tryd.prog ops Q (o :: rest) a w := by
  have hyl := hy.out.len
  obtain ⟨h1, h2⟩ := hlen.out
  by_cases h0 : sLen = 0
  · subst h0
    obtain rfl : ys = [] := List.eq_nil_of_length_eq_zero hyl
    refine wpList_copy_nothing hgd d s _ _ ho 39 Tryd.underlying23 u32_size _ _ _ _ _ _ hd hs (Nat.zero_min _) ?_
    have e : lay zs off [] = zs := by simp [lay]
    exact h w (show OwnN _ _ _ _ _ _ by rw [e]; exact hown.out) (Others.refl _ _) (fun _ hb => hb)
  · obtain ⟨b, ob, rfl, hb1, hcell⟩ := hy.out.2.2 (by omega)
    have hzl := hown.out.len
    rcases hown.out.1.2 with ⟨hv, _⟩ | ⟨g2, cap, cur, hv, hg, hh, h3, h4, h5, h6⟩
    · cases hv
    · injection hv with e1 e2 e3
      injection e1 with e1
      injection e1 with e1
      subst e1
      subst e3
      rw [Nat.mul_one] at h5 h6
      have hcur : cur.toList = zs.map limV := by rw [← h6, List.take_of_length_le (by simp [h5])]
      have hb : ∀ w0, Below B w0 w → Below B w0 (w.setRow g (cur.toList.take off ++ ((ys.map limV) ++ cur.toList.drop (off + (ys.map limV).length))).toArray) := fun w0 hb => below_setRow hb hg _
      have ho' : Others g w (w.setRow g (cur.toList.take off ++ ((ys.map limV) ++ cur.toList.drop (off + (ys.map limV).length))).toArray) := fun k hk => setRow_other w g k _ hk
      have hn : OwnN (w.setRow g (cur.toList.take off ++ ((ys.map limV) ++ cur.toList.drop (off + (ys.map limV).length))).toArray) B (some ⟨g, 0, none⟩) n n (lay zs off ys) := by
        have hl2 : (lay zs off ys).length = n := by rw [lay_length (by omega), hzl]
        refine ⟨⟨by simp [hl2], .inr ⟨g, n, _, rfl, hg, setRow_heap w g _ _ _ _ hh, Nat.le_refl _, h4, ?_, ?_⟩⟩, lay_small hown.out.small hy.out.small⟩
        · rw [hcur]; simp; omega
        · rw [hcur, List.take_of_length_le (by simp; omega)]
          simp [lay, List.map_append, List.map_take, List.map_drop]
      have e2 : goInt (ys.map limV).length = goInt sLen := by rw [List.length_map, hyl]
      refine wpList_copy_own hgd d s _ _ ho 39 Tryd.underlying23 u32_size g off dLen dCap ⟨b, ob, none⟩ sLen sCap hd hs cur 39 hh (ys.map limV) (by rw [List.length_map, hyl]; exact (Nat.min_eq_left h1).symm) ?_ ?_ (oneCell_u32 ys) ?_
      · intro j v hv
        obtain ⟨hj, rfl⟩ := map_u32_get hv
        have e : (⟨b, ob, none⟩ : Addr).add j = ⟨b, ob + j, none⟩ := by unfold Addr.add; split <;> simp_all
        rw [e]
        exact hcell j (by omega)
      · rw [h5]; simp; omega
      · rw [e2]
        exact h _ hn ho' hb

/-- A product, under a name that no simp set opens. -/
def ProdIs (a b t : Nat) : Prop := a * b = t

set_option maxHeartbeats 2000000 in
theorem mulOf_any (A : Option Addr) (n c : Nat) (xs : List Nat) (A' : Option Addr) (n' c' : Nat) (ys : List Nat) (w : World) (hx : IsN w A n xs) (hy : IsN w A' n' ys) (hm : n ≤ 100000000) (hm' : n' ≤ 100000000) (hc : n ≤ c) (hc' : n' ≤ c') :
    Calls Tryd.prog 21 #[.slice A n c, .slice A' n' c'] w fun e w' => ∃ A2 n2 c2, e = .returned (.slice A2 n2 c2) ∧ OwnN w' w.heap.size A2 n2 c2 (limbs (val xs * val ys)) ∧ Below w.heap.size w w' := by
  have hlt := trim_len_le xs
  have hlt' := trim_len_le ys
  have hl := hx.len
  have hl' := hy.len
  have hx' := IsN.take hx (m := (trim xs).length) (by omega)
  rw [← trim_take xs] at hx'
  have hy' := IsN.take hy (m := (trim ys).length) (by omega)
  rw [← trim_take ys] at hy'
  have ex := trim_eq_limbs hx.small
  have ey := trim_eq_limbs hy.small
  have hb : (trim xs).length ≤ 100000000 := by omega
  have hb' : (trim ys).length ≤ 100000000 := by omega
  have Hl : RowKit.Hid (val (trim xs) = val xs) := by show _ = _; rw [ex, val_limbs]
  have Hl' : RowKit.Hid (val (trim ys) = val ys) := by show _ = _; rw [ey, val_limbs]
  clear hl hl' ex ey hlt hlt'
  go_enter Tryd.func21, Tryd.ntmps21
  go_wp2_with fail
  refine (mulCut_any A n c xs w hx hc (by omega)).mono ?_
  rintro e w1 ⟨rfl, rfl⟩
  go_wp2_with fail
  refine (mulCut_any A' n' c' ys w hy hc' (by omega)).mono ?_
  rintro e w1 ⟨rfl, rfl⟩
  generalize trim xs = xs' at *
  generalize trim ys = ys' at *
  clear hx hy
  by_cases hlen : xs'.length < ys'.length
  case' pos =>
    have hle : xs'.length ≤ ys'.length := by omega
    have hlen' : decide (((xs'.length : Nat) : Int) < ((ys'.length : Nat) : Int)) = true := by simpa using hlen
    have HT : ProdIs (val ys') (val xs') (val xs * val ys) := by unfold ProdIs; rw [Hl.out, Hl'.out]; exact Nat.mul_comm _ _
    obtain ⟨long, e⟩ : ∃ l, l = ys' := ⟨_, rfl⟩
    subst e
    obtain ⟨short, e⟩ : ∃ l, l = xs' := ⟨_, rfl⟩
    subst e
    have hL := hy'
    have hS := hx'
    have hbL := hb'
    have hbS := hb
    clear hy' hx' hb hb' Hl Hl' hc hc' hm hm'
  case' neg =>
    have hle : ys'.length ≤ xs'.length := by omega
    have hlen' : decide (((xs'.length : Nat) : Int) < ((ys'.length : Nat) : Int)) = false := by simpa using hlen
    have hlenN : decide (xs'.length < ys'.length) = false := by simpa using hlen
    clear hlen
    have HT : ProdIs (val xs') (val ys') (val xs * val ys) := by unfold ProdIs; rw [Hl.out, Hl'.out]
    obtain ⟨long, e⟩ : ∃ l, l = xs' := ⟨_, rfl⟩
    subst e
    obtain ⟨short, e⟩ : ∃ l, l = ys' := ⟨_, rfl⟩
    subst e
    have hL := hx'
    have hS := hy'
    have hbL := hb
    have hbS := hb'
    clear hy' hx' hb hb' Hl Hl' hc hc' hm hm'
  all_goals
    by_cases h0 : short.length = 0
    · obtain rfl : short = [] := List.eq_nil_of_length_eq_zero h0
      have Hf : RowKit.Hid (limbs (val xs * val ys) = []) := by
        show _ = _
        unfold ProdIs at HT
        rw [← HT]
        simp [val, limbs_zero]
      go_wp2
      go_ret
      exact ⟨_, _, _, rfl, by rw [Hf.out]; exact OwnN.nil _ _, Below.refl _ _⟩
    · have hne : (((short.length : Nat) : Int) == 0) = false := by simp; intro h; exact h0 (by rw [h]; rfl)
      have hpos : 0 < short.length := by omega
      clear h0
      have hmk1 := run_made ((long.length : Int) + (short.length : Int)) (long.length + short.length) (by omega) (by omega)
      have hmk2 := run_made ((long.length : Int) + 1) (long.length + 1) (by omega) (by omega)
      have b0 := below_new w (.cells (madeCells #[.int .u32 0] (long.length + short.length)) 39)
      have b1 := below_two b0 (below_new _ (.cells (madeCells #[.int .u32 0] (long.length + 1)) 39))
      have ho : OwnN _ w.heap.size _ _ _ _ := (own_made w (long.length + short.length) (by omega)).below (below_new _ (.cells (madeCells #[.int .u32 0] (long.length + 1)) 39)) (Nat.le_refl _)
      have hs := (own_made (w.alloc (.cells (madeCells #[.int .u32 0] (long.length + short.length)) 39)) (long.length + 1) (by omega)).mono (B' := w.heap.size) (by simp)
      have hi0 : MulInv long short (List.replicate (long.length + short.length) 0) 0 := MulInv.start _ _
      have hgs : (w.alloc (.cells (madeCells #[.int .u32 0] (long.length + short.length)) 39)).heap.size = w.heap.size + 1 := by simp
      rw [hgs] at hs
      have hsmS := hS.small
      have Hi0 := Lib.hid hi0
      have Ho := Lib.hid ho
      have Hs := Lib.hid hs
      have Hb1 := Lib.hid b1
      clear hi0 ho hs b1 b0 hgs
      go_wp2
      go_loopw [37] (fun i wr => ∃ (k : Nat) (zs zt : List Nat), k ≤ short.length ∧ i = .int .i64 (k : Int) ∧ RowKit.Hid (MulInv long short zs k) ∧ RowKit.Hid (OwnN wr w.heap.size (some ⟨w.heap.size, 0, none⟩) (long.length + short.length) (long.length + short.length) zs) ∧
        RowKit.Hid (OwnN wr w.heap.size (some ⟨w.heap.size + 1, 0, none⟩) (long.length + 1) (long.length + 1) zt) ∧ RowKit.Hid (Below w.heap.size w wr)) (fun i _ => short.length - (intOf i).toNat)
      case atStart => exact ⟨0, _, _, Nat.zero_le _, rfl, Hi0, Ho, Hs, Hb1⟩
      case round =>
        clear Hi0 Ho Hs Hb1 hmk1 hmk2
        obtain ⟨k, zs, zt, hk, rfl, Hinv, Ho, Hs, Hb⟩ := hrel
        by_cases hkq : k < short.length
        · obtain ⟨bs, os, hA, hbs, hcs⟩ := hS.2.2 (by omega)
          subst hA
          have h1 : wr.cell? ⟨bs, os + k, none⟩ = some (.int .u32 ((lim short k : Nat) : Int)) := (Hb.out.cell (p := ⟨bs, os + k, none⟩) hbs).trans (hcs k hkq)
          have l1 := lim_lt hsmS k
          have Hpart : RowKit.Hid (IsN wr (some ⟨w.heap.size, k, none⟩) (long.length + short.length - k) (zs.drop k)) := Ho.out.tail k (by omega)
          have Hdis : RowKit.Hid (∀ b o, (some (⟨w.heap.size, k, none⟩ : Addr)) = some ⟨b, o, none⟩ → b = w.heap.size + 1 → o = 0) := by
            intro b o e1 e2
            injection e1 with e1; injection e1 with e1
            omega
          go_wp2_with fail
          refine (addRow_any w wr Hb.out (w.heap.size + 1) long.length (long.length + 1) zt Hs.out _ _ _ (zs.drop k) Hpart.out (by omega) Hdis.out _ _ long hL (lim short k) l1 (by omega)).mono ?_
          rintro e w2 ⟨rfl, ⟨zu, hu, hvu⟩, hb2, ho2⟩
          have Ho2 : RowKit.Hid (OwnN w2 w.heap.size (some ⟨w.heap.size, 0, none⟩) (long.length + short.length) (long.length + short.length) zs) := Ho.out.others ho2 (by intro b o s e; injection e with e; injection e with e; omega)
          have Hu := Lib.hid hu.isN
          have Hu2 := Lib.hid hu
          have Hul := Lib.hid hu.len
          have Hv := Lib.hid hvu
          have Hb2 := Lib.hid hb2
          have Hlen : RowKit.Hid (long.length + 1 ≤ long.length + short.length - k ∧ k + (long.length + 1) ≤ long.length + short.length) := ⟨by omega, by omega⟩
          clear hu hvu hb2 ho2 Hb Ho Hs Hpart Hdis
          go_wp2_with (with_reducible refine wpList_copy_nat rfl (.tmp 51) (.tmp 52) rfl w.heap.size k (long.length + short.length - k) (long.length + short.length - k) (some ⟨w.heap.size + 1, 0, none⟩) (long.length + 1) (long.length + 1) rfl rfl w.heap.size (long.length + short.length) zs Ho2 zu Hu Hlen ?_)
          intro w3 Ho3 Hoth Hbel
          have Hs3 : RowKit.Hid (OwnN w3 w.heap.size (some ⟨w.heap.size + 1, 0, none⟩) (long.length + 1) (long.length + 1) zu) := Hu2.out.others Hoth.out (by intro b o s e; injection e with e; injection e with e; omega)
          have Hb3 : RowKit.Hid (Below w.heap.size w w3) := Hbel.out w Hb2.out
          have Hst : RowKit.Hid (MulInv long short (lay zs k zu) (k + 1)) := Hinv.out.step (by omega) Hul.out Hv.out
          clear Hoth Hbel Hb2 Hu Hu2 Hv Hinv
          go_wp2
          go_roundw
          case rel => exact ⟨k + 1, lay zs k zu, zu, by omega, by go_num, Hst, Ho3, Hs3, Hb3⟩
          case measure => simp [intOf]; omega
        · obtain rfl : k = short.length := by omega
          have hz := Ho.out.isN
          have hzl := Ho.out.len
          have ht := trim_len_le zs
          have how2 := Ho.out.take (m := (trim zs).length) (by omega)
          rw [← trim_take zs] at how2
          have Hf : RowKit.Hid (trim zs = limbs (val xs * val ys)) := by
            show _ = _
            unfold ProdIs at HT
            rw [trim_eq_limbs Ho.out.small, Hinv.out.done, HT]
          go_wp2_with fail
          refine (mulCut_any _ _ _ zs _ hz (Nat.le_refl _) (by omega)).mono ?_
          rintro e w3 ⟨rfl, rfl⟩
          go_wp2
          go_ret
          refine ⟨_, (trim zs).length, _, rfl, ?_, Hb.out⟩
          rw [← Hf.out]
          exact how2

end Go.Proofs.YtpkjooiddejgpaaDoor
