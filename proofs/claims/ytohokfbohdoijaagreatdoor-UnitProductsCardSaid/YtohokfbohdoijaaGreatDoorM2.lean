/- Part 2 of the texts that the statements of this seat lean on: mathematics, and what functions answer, as contracts over memory; each part says its own conditions. -/
import Derived.Test.YtohokfbohdoijaaGreatDoorM1
import Derived.BigQuiet
import Derived.Deep.QuietTactic
import Derived.Laws.IdiomStrings
import Derived.Deep.RegionLaw
import Derived.Deep.RegionWith
import Derived.RegionTactic
import Derived.BigRegion
import Derived.ChangeAlike
/- What package mul's Of answers, as a contract over memory: the product of the numbers that both lists tell, in its shortest limbs, in new memory. Conditions: both read as limbs, of at most 10^8 of them. -/
namespace Go.Proofs.YtohokfbohdoijaaGreatDoor
open Go.RowKit Limb
set_option linter.unusedVariables false
theorem run_made (V : Int) (n : Nat) (hV : V = n) (hn : n ≤ 2000000000) (W : World) : (Instr.makeSlice 29 (.int .i64 V) (.int .i64 V)).run Tryz.prog W = .ok (.slice (some ⟨W.heap.size, 0, none⟩) n n) (W.alloc (.cells (madeCells #[.int .u32 0] n) 84)) := by
 subst hV
 obtain ⟨i0, hi, hz0, hz1, hz2⟩ := info_parts u32_info
 have h := run_make (P := Tryz.prog) W 29 84 i0 (.int .u32 0) Tryz.underlying29 hi hz0 .i64 .i64 (n : Int) (n : Int) (by omega) (by omega) (by rw [hz2]; omega) (by omega)
 rw [hz1] at h
 rw [Int.toNat_natCast, Nat.mul_one] at h
 exact h
theorem own_made (w : World) (n : Nat) (hn : n ≤ 2000000000) : OwnN (w.alloc (.cells (madeCells #[.int .u32 0] n) 84)) w.heap.size (some ⟨w.heap.size, 0, none⟩) n n (List.replicate n 0) := by
 have Hg : (w.alloc (.cells (madeCells #[.int .u32 0] n) 84)).heap[w.heap.size]? = some (.cells (List.replicate n (Value.int .u32 0)).toArray 84 (0, 0)) := by
  rw [heap_alloc_new, ← toList_madeCells_one]
 refine ⟨⟨by simp, .inr ⟨w.heap.size, n, _, rfl, Nat.le_refl _, Hg, Nat.le_refl _, by unfold maxLen; omega, ?_, ?_⟩⟩, small_zeros _⟩
 · simp
 · simp [limV]
theorem OwnN.tail {w : World} {B g n c : Nat} {zs : List Nat} (h : OwnN w B (some ⟨g, 0, none⟩) n c zs) (k : Nat) (hk : k < n) : IsN w (some ⟨g, k, none⟩) (n - k) (zs.drop k) := by
 have hl := h.len
 obtain ⟨b, o, e, hb, hc⟩ := h.isN.2.2 (by omega)
 injection e with e; injection e with e1 e2; subst e1; subst e2
 refine ⟨by simp; omega, small_drop h.small _, fun _ => ⟨g, k, rfl, hb, fun j hj => ?_⟩⟩
 rw [lim_drop]
 have := hc (k + j) (by omega)
 rwa [Nat.zero_add] at this
theorem wpList_copy_nat {w : World} {ops : Array Oper} {rest : List Oper} {o : Oper} {a : Act} {Q : Exit → Act → World → Prop} (hgd : o.guard = none) (d s : Operand)
 (ho : o.op = .call { callee := .builtin .copy, args := #[d, s], argTypes := #[29, 29] })
 (g off dLen dCap : Nat) (sp : Option Addr) (sLen sCap : Nat) (hd : a.eval d = .slice (some ⟨g, off, none⟩) dLen dCap) (hs : a.eval s = .slice sp sLen sCap)
 (B n : Nat) (zs : List Nat) (hown : Hid (OwnN w B (some ⟨g, 0, none⟩) n n zs)) (ys : List Nat) (hy : Hid (IsN w sp sLen ys)) (hlen : Hid (sLen ≤ dLen ∧ off + sLen ≤ n))
 (h : ∀ w', Hid (OwnN w' B (some ⟨g, 0, none⟩) n n (lay zs off ys)) → Hid (Others g w w') → Hid (∀ w0, Below B w0 w → Below B w0 w') → wpList Tryz.prog ops Q rest (a.put o.dst (goInt sLen)) w') :
 wpList Tryz.prog ops Q (o :: rest) a w := by
 have hyl := hy.out.len
 obtain ⟨h1, h2⟩ := hlen.out
 by_cases h0 : sLen = 0
 · subst h0
   obtain rfl : ys = [] := List.eq_nil_of_length_eq_zero hyl
   refine wpList_copy_nothing hgd d s _ _ ho 84 Tryz.underlying29 u32_size _ _ _ _ _ _ hd hs (Nat.zero_min _) ?_
   have e : lay zs off [] = zs := by simp [lay]
   exact h w (show OwnN _ _ _ _ _ _ by rw [e]; exact hown.out) (Others.refl _ _) (fun _ hb => hb)
 · obtain ⟨b, ob, rfl, hb1, hcell⟩ := hy.out.2.2 (by omega)
   have hzl := hown.out.len
   rcases hown.out.1.2 with ⟨hv, _⟩ | ⟨g2, cap, cur, hv, hg, hh, h3, h4, h5, h6⟩
   · cases hv
   · injection hv with e1 e2 e3
     injection e1 with e1
     injection e1 with e1
     subst e1
     subst e3
     rw [Nat.mul_one] at h5 h6
     have hcur : cur.toList = zs.map limV := by rw [← h6, List.take_of_length_le (by simp [h5])]
     have hb : ∀ w0, Below B w0 w → Below B w0 (w.setRow g (cur.toList.take off ++ ((ys.map limV) ++ cur.toList.drop (off + (ys.map limV).length))).toArray) := fun w0 hb => below_setRow hb hg _
     have ho' : Others g w (w.setRow g (cur.toList.take off ++ ((ys.map limV) ++ cur.toList.drop (off + (ys.map limV).length))).toArray) := fun k hk => setRow_other w g k _ hk
     have hn : OwnN (w.setRow g (cur.toList.take off ++ ((ys.map limV) ++ cur.toList.drop (off + (ys.map limV).length))).toArray) B (some ⟨g, 0, none⟩) n n (lay zs off ys) := by
      have hl2 : (lay zs off ys).length = n := by rw [lay_length (by omega), hzl]
      refine ⟨⟨by simp [hl2], .inr ⟨g, n, _, rfl, hg, setRow_heap w g _ _ _ _ hh, Nat.le_refl _, h4, ?_, ?_⟩⟩, lay_small hown.out.small hy.out.small⟩
      · rw [hcur]; simp; omega
      · rw [hcur, List.take_of_length_le (by simp; omega)]
        simp [lay, List.map_append, List.map_take, List.map_drop]
     have e2 : goInt (ys.map limV).length = goInt sLen := by rw [List.length_map, hyl]
     refine wpList_copy_own hgd d s _ _ ho 84 Tryz.underlying29 u32_size g off dLen dCap ⟨b, ob, none⟩ sLen sCap hd hs cur 84 hh (ys.map limV) (by rw [List.length_map, hyl]; exact (Nat.min_eq_left h1).symm) ?_ ?_ (oneCell_u32 ys) ?_
     · intro j v hv
       obtain ⟨hj, rfl⟩ := map_u32_get hv
       have e : (⟨b, ob, none⟩ : Addr).add j = ⟨b, ob + j, none⟩ := by unfold Addr.add; split <;> simp_all
       rw [e]
       exact hcell j (by omega)
     · rw [h5]; simp; omega
     · rw [e2]
       exact h _ hn ho' hb
def ProdIs (a b t : Nat) : Prop := a * b = t
set_option maxHeartbeats 2000000 in
theorem mulOf_any (A : Option Addr) (n c : Nat) (xs : List Nat) (A' : Option Addr) (n' c' : Nat) (ys : List Nat) (w : World) (hx : IsN w A n xs) (hy : IsN w A' n' ys) (hm : n ≤ 100000000) (hm' : n' ≤ 100000000) (hc : n ≤ c) (hc' : n' ≤ c') :
 Calls Tryz.prog 61 #[.slice A n c, .slice A' n' c'] w fun e w' => ∃ A2 n2 c2, e = .returned (.slice A2 n2 c2) ∧ OwnN w' w.heap.size A2 n2 c2 (limbs (val xs * val ys)) ∧ Below w.heap.size w w' := by
 have hlt := trim_len_le xs
 have hlt' := trim_len_le ys
 have hl := hx.len
 have hl' := hy.len
 have hx' := IsN.take hx (m := (trim xs).length) (by omega)
 rw [← trim_take xs] at hx'
 have hy' := IsN.take hy (m := (trim ys).length) (by omega)
 rw [← trim_take ys] at hy'
 have ex := trim_eq_limbs hx.small
 have ey := trim_eq_limbs hy.small
 have hb : (trim xs).length ≤ 100000000 := by omega
 have hb' : (trim ys).length ≤ 100000000 := by omega
 have Hl : RowKit.Hid (val (trim xs) = val xs) := by show _ = _; rw [ex, val_limbs]
 have Hl' : RowKit.Hid (val (trim ys) = val ys) := by show _ = _; rw [ey, val_limbs]
 clear hl hl' ex ey hlt hlt'
 go_enter Tryz.func61, Tryz.ntmps61
 go_wp2_with fail
 refine (mulCut_any A n c xs w hx hc (by omega)).mono ?_
 rintro e w1 ⟨rfl, rfl⟩
 go_wp2_with fail
 refine (mulCut_any A' n' c' ys w hy hc' (by omega)).mono ?_
 rintro e w1 ⟨rfl, rfl⟩
 generalize trim xs = xs' at *
 generalize trim ys = ys' at *
 clear hx hy
 by_cases hlen : xs'.length < ys'.length
 case' pos =>
  have hle : xs'.length ≤ ys'.length := by omega
  have hlen' : decide (((xs'.length : Nat) : Int) < ((ys'.length : Nat) : Int)) = true := by simpa using hlen
  have HT : ProdIs (val ys') (val xs') (val xs * val ys) := by unfold ProdIs; rw [Hl.out, Hl'.out]; exact Nat.mul_comm _ _
  obtain ⟨long, e⟩ : ∃ l, l = ys' := ⟨_, rfl⟩
  subst e
  obtain ⟨short, e⟩ : ∃ l, l = xs' := ⟨_, rfl⟩
  subst e
  have hL := hy'
  have hS := hx'
  have hbL := hb'
  have hbS := hb
  clear hy' hx' hb hb' Hl Hl' hc hc' hm hm'
 case' neg =>
  have hle : ys'.length ≤ xs'.length := by omega
  have hlen' : decide (((xs'.length : Nat) : Int) < ((ys'.length : Nat) : Int)) = false := by simpa using hlen
  have hlenN : decide (xs'.length < ys'.length) = false := by simpa using hlen
  clear hlen
  have HT : ProdIs (val xs') (val ys') (val xs * val ys) := by unfold ProdIs; rw [Hl.out, Hl'.out]
  obtain ⟨long, e⟩ : ∃ l, l = xs' := ⟨_, rfl⟩
  subst e
  obtain ⟨short, e⟩ : ∃ l, l = ys' := ⟨_, rfl⟩
  subst e
  have hL := hx'
  have hS := hy'
  have hbL := hb
  have hbS := hb'
  clear hy' hx' hb hb' Hl Hl' hc hc' hm hm'
 all_goals
  by_cases h0 : short.length = 0
  · obtain rfl : short = [] := List.eq_nil_of_length_eq_zero h0
    have Hf : RowKit.Hid (limbs (val xs * val ys) = []) := by
     show _ = _
     unfold ProdIs at HT
     rw [← HT]
     simp [val, limbs_zero]
    go_wp2
    go_ret
    exact ⟨_, _, _, rfl, by rw [Hf.out]; exact OwnN.nil _ _, Below.refl _ _⟩
  · have hne : (((short.length : Nat) : Int) == 0) = false := by simp; intro h; exact h0 (by rw [h]; rfl)
    have hpos : 0 < short.length := by omega
    clear h0
    have hmk1 := run_made ((long.length : Int) + (short.length : Int)) (long.length + short.length) (by omega) (by omega)
    have hmk2 := run_made ((long.length : Int) + 1) (long.length + 1) (by omega) (by omega)
    have b0 := below_new w (.cells (madeCells #[.int .u32 0] (long.length + short.length)) 84)
    have b1 := below_two b0 (below_new _ (.cells (madeCells #[.int .u32 0] (long.length + 1)) 84))
    have ho : OwnN _ w.heap.size _ _ _ _ := (own_made w (long.length + short.length) (by omega)).below (below_new _ (.cells (madeCells #[.int .u32 0] (long.length + 1)) 84)) (Nat.le_refl _)
    have hs := (own_made (w.alloc (.cells (madeCells #[.int .u32 0] (long.length + short.length)) 84)) (long.length + 1) (by omega)).mono (B' := w.heap.size) (by simp)
    have hi0 : MulInv long short (List.replicate (long.length + short.length) 0) 0 := MulInv.start _ _
    have hgs : (w.alloc (.cells (madeCells #[.int .u32 0] (long.length + short.length)) 84)).heap.size = w.heap.size + 1 := by simp
    rw [hgs] at hs
    have hsmS := hS.small
    have Hi0 := Lib.hid hi0
    have Ho := Lib.hid ho
    have Hs := Lib.hid hs
    have Hb1 := Lib.hid b1
    clear hi0 ho hs b1 b0 hgs
    go_wp2
    go_loopw [37] (fun i wr => ∃ (k : Nat) (zs zt : List Nat), k ≤ short.length ∧ i = .int .i64 (k : Int) ∧ RowKit.Hid (MulInv long short zs k) ∧ RowKit.Hid (OwnN wr w.heap.size (some ⟨w.heap.size, 0, none⟩) (long.length + short.length) (long.length + short.length) zs) ∧
     RowKit.Hid (OwnN wr w.heap.size (some ⟨w.heap.size + 1, 0, none⟩) (long.length + 1) (long.length + 1) zt) ∧ RowKit.Hid (Below w.heap.size w wr)) (fun i _ => short.length - (intOf i).toNat)
    case atStart => exact ⟨0, _, _, Nat.zero_le _, rfl, Hi0, Ho, Hs, Hb1⟩
    case round =>
     clear Hi0 Ho Hs Hb1 hmk1 hmk2
     obtain ⟨k, zs, zt, hk, rfl, Hinv, Ho, Hs, Hb⟩ := hrel
     by_cases hkq : k < short.length
     · obtain ⟨bs, os, hA, hbs, hcs⟩ := hS.2.2 (by omega)
       subst hA
       have h1 : wr.cell? ⟨bs, os + k, none⟩ = some (.int .u32 ((lim short k : Nat) : Int)) := (Hb.out.cell (p := ⟨bs, os + k, none⟩) hbs).trans (hcs k hkq)
       have l1 := lim_lt hsmS k
       have Hpart : RowKit.Hid (IsN wr (some ⟨w.heap.size, k, none⟩) (long.length + short.length - k) (zs.drop k)) := Ho.out.tail k (by omega)
       have Hdis : RowKit.Hid (∀ b o, (some (⟨w.heap.size, k, none⟩ : Addr)) = some ⟨b, o, none⟩ → b = w.heap.size + 1 → o = 0) := by
        intro b o e1 e2
        injection e1 with e1; injection e1 with e1
        omega
       go_wp2_with fail
       refine (addRow_any w wr Hb.out (w.heap.size + 1) long.length (long.length + 1) zt Hs.out _ _ _ (zs.drop k) Hpart.out (by omega) Hdis.out _ _ long hL (lim short k) l1 (by omega)).mono ?_
       rintro e w2 ⟨rfl, ⟨zu, hu, hvu⟩, hb2, ho2⟩
       have Ho2 : RowKit.Hid (OwnN w2 w.heap.size (some ⟨w.heap.size, 0, none⟩) (long.length + short.length) (long.length + short.length) zs) := Ho.out.others ho2 (by intro b o s e; injection e with e; injection e with e; omega)
       have Hu := Lib.hid hu.isN
       have Hu2 := Lib.hid hu
       have Hul := Lib.hid hu.len
       have Hv := Lib.hid hvu
       have Hb2 := Lib.hid hb2
       have Hlen : RowKit.Hid (long.length + 1 ≤ long.length + short.length - k ∧ k + (long.length + 1) ≤ long.length + short.length) := ⟨by omega, by omega⟩
       clear hu hvu hb2 ho2 Hb Ho Hs Hpart Hdis
       go_wp2_with (with_reducible refine wpList_copy_nat rfl (.tmp 51) (.tmp 52) rfl w.heap.size k (long.length + short.length - k) (long.length + short.length - k) (some ⟨w.heap.size + 1, 0, none⟩) (long.length + 1) (long.length + 1) rfl rfl w.heap.size (long.length + short.length) zs Ho2 zu Hu Hlen ?_)
       intro w3 Ho3 Hoth Hbel
       have Hs3 : RowKit.Hid (OwnN w3 w.heap.size (some ⟨w.heap.size + 1, 0, none⟩) (long.length + 1) (long.length + 1) zu) := Hu2.out.others Hoth.out (by intro b o s e; injection e with e; injection e with e; omega)
       have Hb3 : RowKit.Hid (Below w.heap.size w w3) := Hbel.out w Hb2.out
       have Hst : RowKit.Hid (MulInv long short (lay zs k zu) (k + 1)) := Hinv.out.step (by omega) Hul.out Hv.out
       clear Hoth Hbel Hb2 Hu Hu2 Hv Hinv
       go_wp2
       go_roundw
       case rel => exact ⟨k + 1, lay zs k zu, zu, by omega, by go_num, Hst, Ho3, Hs3, Hb3⟩
       case measure => simp [intOf]; omega
     · obtain rfl : k = short.length := by omega
       have hz := Ho.out.isN
       have hzl := Ho.out.len
       have ht := trim_len_le zs
       have how2 := Ho.out.take (m := (trim zs).length) (by omega)
       rw [← trim_take zs] at how2
       have Hf : RowKit.Hid (trim zs = limbs (val xs * val ys)) := by
        show _ = _
        unfold ProdIs at HT
        rw [trim_eq_limbs Ho.out.small, Hinv.out.done, HT]
       go_wp2_with fail
       refine (mulCut_any _ _ _ zs _ hz (Nat.le_refl _) (by omega)).mono ?_
       rintro e w3 ⟨rfl, rfl⟩
       go_wp2
       go_ret
       refine ⟨_, (trim zs).length, _, rfl, ?_, Hb.out⟩
       rw [← Hf.out]
       exact how2
end Go.Proofs.YtohokfbohdoijaaGreatDoor

/- What package mul's Small and up answer, as contracts over memory: the product of a number and one limb, a number moved up by bits, in shortest limbs, in new memory. Conditions: the list reads as limbs, of at most 10^8 of them; moves of at most 8192 bits. -/
namespace Go.Proofs.YtohokfbohdoijaaGreatDoor
open Go.RowKit Limb
set_option linter.unusedVariables false
theorem zeros_limbs (k m : Nat) (h : m ≠ 0) : List.replicate k 0 ++ limbs m = limbs (4294967296 ^ k * m) := by
 have e := eq_limbs (xs := List.replicate k 0 ++ limbs m) (small_append.2 ⟨small_zeros k, small_limbs m⟩) (.inr ?_)
 · rwa [val_zeros, val_limbs] at e
 · rw [val_zeros, val_limbs, List.length_append, List.length_replicate]
   have h1 := length_limbs_pred h
   have h2 : (limbs m).length ≠ 0 := by rw [limbs_pos h]; simp
   rw [show k + (limbs m).length - 1 = k + ((limbs m).length - 1) by omega, Nat.pow_add]
   exact Nat.mul_le_mul_left _ h1
theorem lay_zeros (k : Nat) (ys : List Nat) : lay (List.replicate (k + ys.length) 0) k ys = List.replicate k 0 ++ ys := by
 simp [lay]
set_option maxHeartbeats 1000000 in
theorem mulSmall_any (A : Option Addr) (n c : Nat) (xs : List Nat) (v : Nat) (w : World) (hx : IsN w A n xs) (hm : n ≤ 100000000) (hc : n ≤ c) (hv : v < 4294967296) :
 Calls Tryz.prog 185 #[.slice A n c, .int .u32 (v : Int)] w fun e w' => ∃ A2 n2 c2, e = .returned (.slice A2 n2 c2) ∧ OwnN w' w.heap.size A2 n2 c2 (limbs (val xs * v)) ∧ Below w.heap.size w w' := by
 have hlt := trim_len_le xs
 have hl := hx.len
 have hx' := IsN.take hx (m := (trim xs).length) (by omega)
 rw [← trim_take xs] at hx'
 have ex := trim_eq_limbs hx.small
 have hb : (trim xs).length ≤ 100000000 := by omega
 have Hl : RowKit.Hid (val (trim xs) = val xs) := by show _ = _; rw [ex, val_limbs]
 clear hl ex hlt
 go_enter Tryz.func185, Tryz.ntmps185
 go_wp2_with fail
 refine (mulCut_any A n c xs w hx hc (by omega)).mono ?_
 rintro e w1 ⟨rfl, rfl⟩
 generalize trim xs = ys at *
 clear hx
 by_cases h0 : ys.length = 0
 · obtain rfl : ys = [] := List.eq_nil_of_length_eq_zero h0
   have Hf : RowKit.Hid (limbs (val xs * v) = []) := by show _ = _; rw [← Hl.out]; simp [val, limbs_zero]
   go_wp2
   go_ret
   exact ⟨_, _, _, rfl, by rw [Hf.out]; exact OwnN.nil _ _, Below.refl _ _⟩
 · have hne : (((ys.length : Nat) : Int) == 0) = false := by simp; intro h; exact h0 (by rw [h]; rfl)
   by_cases hv0 : v = 0
   · subst hv0
     have Hf : RowKit.Hid (limbs (val xs * 0) = []) := by show _ = _; rw [Nat.mul_zero, limbs_zero]
     go_wp2
     go_ret
     exact ⟨_, _, _, rfl, by rw [Hf.out]; exact OwnN.nil _ _, Below.refl _ _⟩
   · have hvne : ((v : Int) == 0) = false := by simp; exact hv0
     have hpos : 0 < ys.length := by omega
     clear h0 hv0
     have hmk2 := run_made ((ys.length : Int) + 1) (ys.length + 1) (by omega) (by omega)
     have Hb1 := Lib.hid (below_new w (.cells (madeCells #[.int .u32 0] (ys.length + 1)) 84))
     have hs := own_made w (ys.length + 1) (by omega)
     have Hs := Lib.hid hs
     have Hpart := Lib.hid hs.isN
     have Hdis : RowKit.Hid (∀ b o, (some (⟨w.heap.size, 0, none⟩ : Addr)) = some ⟨b, o, none⟩ → b = w.heap.size → o = 0) := by
      intro b o e1 e2
      injection e1 with e1; injection e1 with e1 e3
      exact e3.symm
     clear hs
     go_wp2_with fail
     refine (addRow_any w _ Hb1.out w.heap.size ys.length (ys.length + 1) _ Hs.out _ _ _ _ Hpart.out (by omega) Hdis.out _ _ ys hx' v hv (by omega)).mono ?_
     rintro e w2 ⟨rfl, ⟨zs, hz, hvz⟩, hb2, ho2⟩
     have hv2 : val zs = val xs * v := by
      rw [hvz, Hl.out, Nat.mul_comm, val_zero (zs := List.take _ _) (fun j => ?_), Nat.zero_add]
      simp [lim, List.getD_eq_getElem?_getD, List.getElem?_replicate]
      split <;> (try split) <;> rfl
     clear Hs Hpart Hdis ho2 hvz
     have hzi := hz.isN
     have hzl := hz.len
     have ht := trim_len_le zs
     have how2 := hz.take (m := (trim zs).length) (by omega)
     rw [← trim_take zs] at how2
     have Hf : RowKit.Hid (trim zs = limbs (val xs * v)) := by
      show _ = _
      rw [trim_eq_limbs hz.small, hv2]
     clear hv2 hz hzl
     go_wp2_with fail
     refine (mulCut_any _ _ _ zs _ hzi (Nat.le_refl _) (by omega)).mono ?_
     rintro e w3 ⟨rfl, rfl⟩
     go_wp2
     go_ret
     refine ⟨_, (trim zs).length, _, rfl, ?_, hb2⟩
     rw [← Hf.out]
     exact how2
theorem two_pow_small (r : Nat) (h : r < 32) : 2 ^ r < 4294967296 := by
 have : 2 ^ r < 2 ^ 32 := Nat.pow_lt_pow_right (by decide) h
 simpa using this
theorem two_pow_int (r : Nat) (h : r < 32) : (2 : Int) ^ r % 4294967296 = ((2 ^ r : Nat) : Int) := by
 have h1 := two_pow_small r h
 have e : (2 : Int) ^ r = ((2 ^ r : Nat) : Int) := by rw [Int.natCast_pow]; rfl
 rw [e]
 generalize 2 ^ r = t at h1 ⊢
 omega
theorem pow_split (a k : Nat) : 4294967296 ^ (k / 32) * (a * 2 ^ (k % 32)) = a * 2 ^ k := by
 rw [Nat.mul_left_comm, pow_move]
set_option maxHeartbeats 1000000 in
theorem mulUp_any (A : Option Addr) (n c : Nat) (xs : List Nat) (k : Nat) (V : Int) (hV : V = k) (w : World) (hx : IsN w A n xs) (hm : n ≤ 90000000) (hc : n ≤ c) (hk : k ≤ 8192) :
 Calls Tryz.prog 169 #[.slice A n c, .int .i64 V] w fun e w' => ∃ A2 n2 c2, e = .returned (.slice A2 n2 c2) ∧ OwnN w' w.heap.size A2 n2 c2 (limbs (val xs * 2 ^ k)) ∧ Below w.heap.size w w' := by
 subst hV
 have hlt : val xs * 2 ^ (k % 32) < 4294967296 ^ (n + 1) := by
  have h1 := val_lt hx.small
  rw [hx.len] at h1
  have h2 := two_pow_small (k % 32) (Nat.mod_lt _ (by decide))
  have h3 : 0 < 2 ^ (k % 32) := Nat.two_pow_pos _
  rw [Nat.pow_succ]
  exact Nat.lt_of_lt_of_le (Nat.mul_lt_mul_of_pos_right h1 h3) (Nat.mul_le_mul_left _ (Nat.le_of_lt h2))
 have Hlen := Lib.hid (length_limbs_le hlt)
 have hsh : 2 ^ (k % 32) < 4294967296 := two_pow_small _ (Nat.mod_lt _ (by decide))
 have Hsh := Lib.hid hsh
 clear hlt hsh
 go_enter Tryz.func169, Tryz.ntmps169
 go_wp2_with fail
 rw [two_pow_int _ (Nat.mod_lt _ (by decide))]
 obtain ⟨t, ht⟩ : ∃ t, t = 2 ^ (k % 32) := ⟨_, rfl⟩
 have Hprod : RowKit.Hid (4294967296 ^ (k / 32) * (val xs * t) = val xs * 2 ^ k) := by show _ = _; rw [ht]; exact pow_split _ _
 rw [← ht] at Hsh Hlen ⊢
 clear ht
 refine (mulSmall_any A n c xs t w hx (by omega) hc Hsh.out).mono ?_
 rintro e w1 ⟨A1, n1, c1, rfl, h1, b1⟩
 have hn1 : n1 ≤ n + 1 := by have := h1.len; have := Hlen.out; omega
 by_cases h0 : n1 = 0
 · subst h0
   have Hf : RowKit.Hid (limbs (val xs * 2 ^ k) = []) := by
    show _ = _
    have e0 := List.eq_nil_of_length_eq_zero h1.len
    rw [limbs_eq_nil] at e0
    rw [← Hprod.out, e0, Nat.mul_zero, limbs_zero]
   clear h1
   go_wp2
   go_ret
   exact ⟨_, _, _, rfl, by rw [Hf.out]; exact OwnN.nil _ _, b1⟩
 · have hne : ((n1 : Int) == 0) = false := by simp; exact h0
   have hpos : 0 < n1 := by omega
   clear h0
   have hq : k / 32 ≤ 256 := by omega
   obtain ⟨q, hq2⟩ : ∃ q, q = k / 32 := ⟨_, rfl⟩
   have eq1 : (k : Int) / 32 = (q : Int) := by omega
   have hq3 : q ≤ 256 := by omega
   have Hf : RowKit.Hid (List.replicate q 0 ++ limbs (val xs * t) = limbs (val xs * 2 ^ k)) := by
    show _ = _
    rw [zeros_limbs, hq2, Hprod.out]
    intro h0
    have := h1.len
    rw [h0, limbs_zero] at this
    simp at this
    omega
   have hmk2 := run_made ((q : Int) + (n1 : Int)) (q + n1) (by omega) (by omega)
   have b2 := below_new w1 (.cells (madeCells #[.int .u32 0] (q + n1)) 84)
   have Hs := Lib.hid (own_made w1 (q + n1) (by omega))
   have Hu := Lib.hid (h1.isN.below b2)
   have Hul := Lib.hid h1.len
   have Hb2 := Lib.hid b2
   have Hb1 := Lib.hid b1
   have Hsz := Lib.hid b1.size
   have Hlen2 : RowKit.Hid (n1 ≤ n1 ∧ q + n1 ≤ q + n1) := ⟨Nat.le_refl _, Nat.le_refl _⟩
   clear h1 b1 b2 Hlen Hprod hq hq2
   go_wp2_with (with_reducible refine wpList_copy_nat rfl (.tmp 24) (.tmp 25) rfl w1.heap.size q n1 n1 A1 n1 c1 rfl rfl w1.heap.size (q + n1) (List.replicate (q + n1) 0) Hs (limbs (val xs * t)) Hu Hlen2 ?_)
   intro w3 Ho Hoth Hbel
   have Hb3 := Lib.hid (below_two Hb1.out (Hbel.out w1 Hb2.out))
   have Ho3 : RowKit.Hid (OwnN w3 w.heap.size (some ⟨w1.heap.size, 0, none⟩) (q + n1) (q + n1) (limbs (val xs * 2 ^ k))) := by
    have h := Ho.out.mono Hsz.out
    have e2 : lay (List.replicate (q + n1) 0) q (limbs (val xs * t)) = List.replicate q 0 ++ limbs (val xs * t) := by
     have := lay_zeros q (limbs (val xs * t))
     rwa [Hul.out] at this
    rw [e2, Hf.out] at h
    exact h
   clear Hs Hu Hul Hb2 Hb1 Hsz Hoth Hbel Ho Hf
   go_wp2
   go_ret
   exact ⟨_, _, _, rfl, Ho3.out, Hb3.out⟩
end Go.Proofs.YtohokfbohdoijaaGreatDoor

/- What the document's own answers for layer 1 (package steelyardref01) come to, as contracts over memory: Of, Cmp. Conditions: arguments read as limbs, of at most 10^9 of them. -/
namespace Go.Proofs.YtohokfbohdoijaaGreatDoor
open Go.RowKit Limb
set_option linter.unusedVariables false
set_option maxHeartbeats 400000 in
theorem refOf_any (v : Int) (w : World) (h0 : 0 ≤ v) (h1 : v < 18446744073709551616) :
 Calls Tryz.prog 117 #[.int .u64 v] w fun e w' => ∃ A' n' c', e = .returned (.slice A' n' c') ∧ OwnN w' w.heap.size A' n' c' (limbs v.toNat) ∧ Below w.heap.size w w' := by
 go_enter Tryz.func117, Tryz.ntmps117
 go_wp2_with fail
 obtain ⟨v, rfl⟩ := Int.eq_ofNat_of_zero_le h0
 have e : (#[Value.int IntKind.u32 ((v : Int) % 4294967296), Value.int IntKind.u32 ((v : Int) / 4294967296)] : Array Value) = ([v % 4294967296, v / 4294967296].map limV).toArray := rfl
 have hs : Small [v % 4294967296, v / 4294967296] := by
  intro x hx
  simp at hx
  omega
 have hv : trim [v % 4294967296, v / 4294967296] = limbs ((v : Int)).toNat := by
  rw [trim_eq_limbs hs]
  congr 1
  simp [val]
  omega
 rw [e]
 refine (refTrim_any _ 2 2 [v % 4294967296, v / 4294967296] _ (isN_lit w [v % 4294967296, v / 4294967296] hs) (by omega) (by omega)).mono ?_
 rintro e w1 ⟨A', n', c', rfl, hown, hbel⟩
 rw [hv] at hown
 have hb : Below w.heap.size w w1 := ((Below.refl _ _).alloc (Nat.le_refl _) _).trans (hbel.mono (by simp))
 have hown' : OwnN w1 w.heap.size A' n' c' (limbs ((v : Int)).toNat) := hown.mono (by simp)
 clear hown hbel hv
 go_wp2
 go_ret
 exact ⟨_, _, _, rfl, hown', hb⟩
theorem val_eq_of_lim {xs ys : List Nat} (hx : Small xs) (hy : Small ys) (h : ∀ j, lim xs j = lim ys j) : val xs = val ys := by
 have e : ∀ k, val (xs.take k) = val (ys.take k) := by
  intro k
  induction k with
  | zero => rfl
  | succ k ih => rw [val_take_lim, val_take_lim, ih, h k]
 have := e (max xs.length ys.length)
 rwa [List.take_of_length_le (by omega), List.take_of_length_le (by omega)] at this
theorem val_lt_pad {xs ys : List Nat} (hx : Small xs) (hy : Small ys) {k : Nat} (hlt : lim xs k < lim ys k) (h : ∀ j, k < j → lim xs j = lim ys j) : val xs < val ys := by
 have e : ∀ m, val (xs.take (k + 1 + m)) + 4294967296 ^ k ≤ val (ys.take (k + 1 + m)) + val (xs.take k) := by
  intro m
  induction m with
  | zero =>
   rw [Nat.add_zero, val_take_lim, val_take_lim]
   have h1 : 4294967296 ^ k * (lim xs k + 1) ≤ 4294967296 ^ k * lim ys k := Nat.mul_le_mul_left _ hlt
   rw [Nat.mul_add] at h1
   omega
  | succ m ih =>
   rw [← Nat.add_assoc, val_take_lim, val_take_lim, h (k + 1 + m) (by omega)]
   omega
 have h1 := e (max xs.length ys.length)
 rw [List.take_of_length_le (by omega), List.take_of_length_le (by omega)] at h1
 have h2 := val_lt (small_take hx k)
 have h3 : 4294967296 ^ (xs.take k).length ≤ 4294967296 ^ k := Nat.pow_le_pow_right (by decide) (by rw [List.length_take]; omega)
 omega
set_option maxHeartbeats 800000 in
theorem refCmp_any (A : Option Addr) (n c : Nat) (xs : List Nat) (A' : Option Addr) (n' c' : Nat) (ys : List Nat) (w : World) (hx : IsN w A n xs) (hy : IsN w A' n' ys) (hm : n ≤ 1000000000) (hm' : n' ≤ 1000000000) :
 Calls Tryz.prog 158 #[.slice A n c, .slice A' n' c'] w fun e w' => e = .returned (.int .i64 (cmpI (val xs) (val ys))) ∧ w = w' := by
 have hl := Lib.hid hx.len
 have hl' := Lib.hid hy.len
 by_cases hnn : n < n'
 case' pos => obtain ⟨M, hM, hM1, hM2⟩ : ∃ M, n' = M ∧ n ≤ M ∧ n' ≤ M := ⟨n', rfl, by omega, by omega⟩
 case' neg => obtain ⟨M, hM, hM1, hM2⟩ : ∃ M, n = M ∧ n ≤ M ∧ n' ≤ M := ⟨n, rfl, by omega, by omega⟩
 all_goals
  have hMb : M ≤ 1000000000 := by omega
  have HM := Lib.hid hM
  clear hM
  go_enter Tryz.func158, Tryz.ntmps158
  go_wp2
  go_loop [5] (fun i => ∃ k : Nat, k ≤ M ∧ i = .int .i64 ((k : Int) - 1) ∧ (∀ j, k ≤ j → lim xs j = lim ys j)) (fun i => (intOf i + 1).toNat)
  case atStart => exact ⟨M, Nat.le_refl _, by rw [← HM.out], fun j h1 => by rw [lim_of_ge (by have := hl.out; omega), lim_of_ge (by have := hl'.out; omega)]⟩
  case round =>
   obtain ⟨k, hk, rfl, heq⟩ := hrel
   have Heq := Lib.hid heq
   clear heq
   by_cases hk0 : k = 0
   · subst hk0
     have e : RowKit.Hid (cmpI (val xs) (val ys) = 0) := cmpI_same (val_eq_of_lim hx.small hy.small fun j => Heq.out j (Nat.zero_le _))
     go_wp2
     go_ret
     exact ⟨by rw [e.out]; rfl, rfl⟩
   · have b1 := lim_lt hx.small (k - 1)
     have b2 := lim_lt hy.small (k - 1)
     have ek : ((k : Int) - 1).toNat = k - 1 := by omega
     have Ek := Lib.hid ek
     clear ek
     have c1 : ∀ w' : World, w = w' → Calls Tryz.prog 170 #[.slice A n c, .int .i64 ((k : Int) - 1)] w' fun e w2 => e = .returned (.int .u64 ((lim xs (k - 1) : Nat) : Int)) ∧ w' = w2 := by
      rintro w' rfl
      have := refAt_any A n c xs ((k : Int) - 1) w hx hm (by omega) (by omega)
      rwa [Ek.out] at this
     have c2 : ∀ w' : World, w = w' → Calls Tryz.prog 170 #[.slice A' n' c', .int .i64 ((k : Int) - 1)] w' fun e w2 => e = .returned (.int .u64 ((lim ys (k - 1) : Nat) : Int)) ∧ w' = w2 := by
      rintro w' rfl
      have := refAt_any A' n' c' ys ((k : Int) - 1) w hy hm' (by omega) (by omega)
      rwa [Ek.out] at this
     have C1 := Lib.hid c1
     have C2 := Lib.hid c2
     clear c1 c2
     rcases Nat.lt_trichotomy (lim xs (k - 1)) (lim ys (k - 1)) with ho | ho | ho
     · have e : RowKit.Hid (cmpI (val xs) (val ys) = -1) := cmpI_lt (val_lt_pad hx.small hy.small ho fun j hj => Heq.out j (by omega))
       go_wp2_with fail
       refine (C1.out _ rfl).mono ?_
       rintro e w1 ⟨rfl, rfl⟩
       go_wp2_with fail
       refine (C2.out _ rfl).mono ?_
       rintro e w1 ⟨rfl, rfl⟩
       go_wp2
       go_ret
       exact ⟨by rw [e.out]; rfl, rfl⟩
     · have Ho := Lib.hid ho
       have hle : lim xs (k - 1) ≤ lim ys (k - 1) := by omega
       have hge : lim ys (k - 1) ≤ lim xs (k - 1) := by omega
       clear ho
       go_wp2_with fail
       refine (C1.out _ rfl).mono ?_
       rintro e w1 ⟨rfl, rfl⟩
       go_wp2_with fail
       refine (C2.out _ rfl).mono ?_
       rintro e w1 ⟨rfl, rfl⟩
       go_wp2_with fail
       refine (C1.out _ rfl).mono ?_
       rintro e w1 ⟨rfl, rfl⟩
       go_wp2_with fail
       refine (C2.out _ rfl).mono ?_
       rintro e w1 ⟨rfl, rfl⟩
       go_wp2
       go_round
       case rel => exact ⟨k - 1, by omega, by go_num, fun j h1 => by
        rcases Nat.lt_or_ge j k with h | h
        · have : j = k - 1 := by omega
          subst this; exact Ho.out
        · exact Heq.out j h⟩
       case measure => simp [intOf]; omega
     · have e : RowKit.Hid (cmpI (val xs) (val ys) = 1) := cmpI_gt (val_lt_pad hy.small hx.small ho fun j hj => (Heq.out j (by omega)).symm)
       have hle : ¬ lim xs (k - 1) < lim ys (k - 1) := by omega
       go_wp2_with fail
       refine (C1.out _ rfl).mono ?_
       rintro e w1 ⟨rfl, rfl⟩
       go_wp2_with fail
       refine (C2.out _ rfl).mono ?_
       rintro e w1 ⟨rfl, rfl⟩
       go_wp2_with fail
       refine (C1.out _ rfl).mono ?_
       rintro e w1 ⟨rfl, rfl⟩
       go_wp2_with fail
       refine (C2.out _ rfl).mono ?_
       rintro e w1 ⟨rfl, rfl⟩
       go_wp2
       go_ret
       exact ⟨by rw [e.out]; rfl, rfl⟩
end Go.Proofs.YtohokfbohdoijaaGreatDoor

/- What the document's own answers for layer 1 (package steelyardref01) come to, as contracts over memory: Bit, Bits, Sub. Conditions: arguments read as limbs, of at most 10^8 of them; a difference is asked of a number that is not below. -/
namespace Go.Proofs.YtohokfbohdoijaaGreatDoor
open Go.RowKit Limb
set_option linter.unusedVariables false
theorem bit_of64 (t k : Nat) (ht : t < 4294967296) : (bits BinOp.and IntKind.u64 ((t : Int) / 2 ^ k) 1 == 1) = t.testBit k := by
 have e : (t : Int) / 2 ^ k = ((t / 2 ^ k : Nat) : Int) := by simp
 have h1 : t / 2 ^ k < 4294967296 := Nat.lt_of_le_of_lt (Nat.div_le_self _ _) ht
 have h2 := u64_and_nat (t / 2 ^ k) 1 (by omega) (by decide)
 rw [e, show (1 : Int) = ((1 : Nat) : Int) from rfl, h2, Nat.and_one_is_mod, Nat.testBit_eq_decide_div_mod_eq]
 rw [Bool.eq_iff_iff]
 simp
 omega
set_option maxHeartbeats 400000 in
theorem refBit_any (A : Option Addr) (n c : Nat) (xs : List Nat) (i : Int) (w : World) (hx : IsN w A n xs) (hm : n ≤ 1000000000) (h0 : 0 ≤ i) (h1 : i ≤ 9223372036854775807) :
 Calls Tryz.prog 181 #[.slice A n c, .int .i64 i] w fun e w' => e = .returned (.bool ((val xs).testBit i.toNat)) ∧ w = w' := by
 have H := Lib.hid (testBit_lim xs hx.small i.toNat)
 obtain ⟨i, rfl⟩ := Int.eq_ofNat_of_zero_le h0
 rw [Int.toNat_natCast] at H ⊢
 have hat : ∀ w' : World, w = w' → Calls Tryz.prog 170 #[.slice A n c, .int .i64 ((i : Int) / 32)] w' fun e w2 => e = .returned (.int .u64 ((lim xs (i / 32) : Nat) : Int)) ∧ w' = w2 := by
  rintro w' rfl
  have := refAt_any A n c xs ((i : Int) / 32) w hx hm (by omega) (by omega)
  rwa [show ((i : Int) / 32).toNat = i / 32 by omega] at this
 have Hat := Lib.hid hat
 clear hat
 have hlt := lim_lt hx.small (i / 32)
 go_enter Tryz.func181, Tryz.ntmps181
 go_wp2_with fail
 refine (Hat.out _ rfl).mono ?_
 rintro e w1 ⟨rfl, rfl⟩
 go_wp2
 go_ret
 refine ⟨ret_bool ?_, rfl⟩
 rw [H.out]
 exact bit_of64 _ _ hlt
theorem refBit_c {A : Option Addr} {n c : Nat} {xs : List Nat} {a L : Nat} {w : World} (hx : NN w A n c xs a L) (h1 : L ≤ 1000000000) (i : Int) (h2 : 0 ≤ i) (h3 : i ≤ 9223372036854775807) (v : Bool) (hv : a.testBit i.toNat = v) :
 Calls Tryz.prog 181 #[.slice A n c, .int .i64 i] w fun e w' => e = .returned (.bool v) ∧ w = w' := by
 have := refBit_any A n c xs i w hx.isN (by have := hx.le; omega) h2 h3
 rwa [hx.val, hv] at this
theorem blen_of_bit {n k : Nat} (h : blen n ≤ k) (hk : k ≠ 0) (hb : n.testBit (k - 1) = true) : blen n = k := by
 have h1 := Nat.ge_two_pow_of_testBit hb
 have h2 := blen_lt n
 have h3 : k - 1 < blen n := (Nat.pow_lt_pow_iff_right (show 1 < 2 by decide)).1 (Nat.lt_of_le_of_lt h1 h2)
 omega
theorem blen_of_nobit {n k : Nat} (h : blen n ≤ k) (hk : k ≠ 0) (hb : n.testBit (k - 1) = false) : blen n ≤ k - 1 := by
 by_cases h0 : n = 0
 · subst h0; rw [blen_zero]; omega
 · have h1 := blen_top h0
   refine Classical.byContradiction fun hn => ?_
   have : blen n - 1 = k - 1 := by omega
   rw [this, hb] at h1
   cases h1
set_option maxHeartbeats 400000 in
theorem refBits_c {A : Option Addr} {n c : Nat} {xs : List Nat} {a L : Nat} {w : World} (hx : NN w A n c xs a L) (h1 : L ≤ 100000000) (v : Int) (hv : ((blen a : Nat) : Int) = v) :
 Calls Tryz.prog 157 #[.slice A n c] w fun e w' => e = .returned (.int .i64 v) ∧ w = w' := by
 subst hv
 have hb : blen a ≤ 32 * n := by
  have h := blen_NN (L := n) ⟨hx.isN, hx.val, hx.cap, Nat.le_refl _⟩
  exact h
 have hle := hx.le
 go_enter Tryz.func157, Tryz.ntmps157
 go_wp2
 go_loop [3] (fun i => ∃ k : Nat, k ≤ 32 * n ∧ i = .int .i64 k ∧ blen a ≤ k) (fun i => (intOf i).toNat)
 case atStart => exact ⟨32 * n, Nat.le_refl _, by simp, hb⟩
 case round =>
  obtain ⟨k, hk, rfl, hbk⟩ := hrel
  by_cases hk0 : k = 0
  · subst hk0
    have e : RowKit.Hid (blen a = 0) := by show _ = _; omega
    go_wp2
    go_ret
    exact ⟨by rw [e.out]; rfl, rfl⟩
  · have ek : ((k : Int) - 1).toNat = k - 1 := by omega
    have Ek := Lib.hid ek
    clear ek
    by_cases ht : a.testBit (k - 1) = true
    · have e := Lib.hid (blen_of_bit hbk hk0 ht)
      have Ht := Lib.hid ht
      clear ht
      go_wp2_with fail
      refine (refBit_c hx (by omega) _ (by omega) (by omega) true (by rw [Ek.out]; exact Ht.out)).mono ?_
      rintro e w1 ⟨rfl, rfl⟩
      go_wp2
      go_ret
      exact ⟨by rw [e.out]; rfl, rfl⟩
    · have ht : a.testBit (k - 1) = false := by simpa using ht
      have hb2 := blen_of_nobit hbk hk0 ht
      have Ht := Lib.hid ht
      clear ht
      go_wp2_with fail
      refine (refBit_c hx (by omega) _ (by omega) (by omega) false (by rw [Ek.out]; exact Ht.out)).mono ?_
      rintro e w1 ⟨rfl, rfl⟩
      go_wp2
      go_round
      case rel => exact ⟨k - 1, by omega, by go_num, hb2⟩
      case measure => simp [intOf]; omega
def RSub (xs ys zs : List Nat) (k br : Nat) : Prop := zs.length = k ∧ Small zs ∧ val zs + val (ys.take k) = val (xs.take k) + br * 4294967296 ^ k ∧ br ≤ 1
theorem RSub.start (xs ys : List Nat) : RSub xs ys [] 0 0 := ⟨rfl, small_nil, by simp [val], by omega⟩
theorem sub_step {S X Y z y c P lo hi : Nat} (h : S + Y = X + c * P) (e : lo + y + c = z + hi * 4294967296) : S + P * lo + (Y + P * y) = X + P * z + hi * (P * 4294967296) := by
 have h1 := congrArg (P * ·) e
 simp only [Nat.mul_add] at h1
 rw [Nat.mul_left_comm hi P, Nat.mul_comm c P] at *
 omega
theorem RSub.step0 {xs ys zs : List Nat} {k br lo hi : Nat} (h : RSub xs ys zs k br) (hs : lo < 4294967296) (hi1 : hi ≤ 1) (e : lo + lim ys k + br = lim xs k + hi * 4294967296) : RSub xs ys (zs ++ [lo]) (k + 1) hi := by
 obtain ⟨h1, h2, h3, h4⟩ := h
 have hv : val (zs ++ [lo]) = val zs + 4294967296 ^ k * lo := by rw [val_append, h1]; simp [val]
 have e2 : 4294967296 ^ (k + 1) = 4294967296 ^ k * 4294967296 := Nat.pow_succ ..
 refine ⟨by simp [h1], small_append.2 ⟨h2, small_cons.2 ⟨hs, small_nil⟩⟩, ?_, hi1⟩
 rw [hv, val_take_lim, val_take_lim, e2]
 exact sub_step h3 e
theorem RSub.step {xs ys zs : List Nat} {k br : Nat} (h : RSub xs ys zs k br) (hx : Small xs) (hy : Small ys) : RSub xs ys (zs ++ [diffLo (lim xs k) (lim ys k) br]) (k + 1) (diffHi (lim xs k) (lim ys k) br) :=
 h.step0 (diffLo_lt _ _ _) (diffHi_le _ _ _) (diff_parts (lim_lt hx k) (lim_lt hy k) h.2.2.2)
theorem RSub.done {xs ys zs : List Nat} {k br : Nat} (h : RSub xs ys zs k br) (hk : xs.length = k) (hle : val ys ≤ val xs) (hx : Small xs) : val zs = val xs - val ys := by
 obtain ⟨h1, h2, h3, h4⟩ := h
 have hz := val_lt h2
 rw [h1] at hz
 have hxl := val_lt hx
 rw [hk] at hxl
 rw [List.take_of_length_le (l := xs) (by omega)] at h3
 have hy : val (ys.take k) = val ys := by
  by_cases hky : ys.length ≤ k
  · rw [List.take_of_length_le hky]
  · have e := val_split ys k (by omega)
    have h0 : val (ys.drop k) = 0 := by
     refine Classical.byContradiction fun hn => ?_
     have : 4294967296 ^ k * 1 ≤ 4294967296 ^ k * val (ys.drop k) := Nat.mul_le_mul_left _ (by omega)
     omega
    rw [h0] at e
    omega
 rw [hy] at h3
 rcases (show br = 0 ∨ br = 1 by omega) with rfl | rfl
 · omega
 · omega
theorem diffHi_yes {x y c : Nat} (h : x < y + c) : diffHi x y c = 1 := by simp [diffHi, h]
theorem diffHi_no {x y c : Nat} (h : ¬ x < y + c) : diffHi x y c = 0 := by simp [diffHi, h]
set_option maxHeartbeats 800000 in
theorem refSub_o {A A' : Option Addr} {n c n' c' : Nat} {xs ys : List Nat} {a b L L' : Nat} {w : World} (hx : NN w A n c xs a L) (hy : NN w A' n' c' ys b L') (h1 : L ≤ 100000000) (h2 : L' ≤ 100000000) (hab : b ≤ a) :
 Calls Tryz.prog 159 #[.slice A n c, .slice A' n' c'] w fun e w' => ∃ A2 n2 c2, e = .returned (.slice A2 n2 c2) ∧ OwnN w' w.heap.size A2 n2 c2 (limbs (a - b)) ∧ Below w.heap.size w w' := by
 have hle := hx.le
 have hle' := hy.le
 have Hlx := Lib.hid hx.isN.len
 have Hab := Lib.hid hab
 clear hab
 go_enter Tryz.func159, Tryz.ntmps159
 go_wp2
 go_loopw [7, 6, 5] (fun i cy v wr => ∃ (k br : Nat) (zs : List Nat) (A2 : Option Addr) (c2 : Nat), k ≤ n ∧ i = .int .i64 (k : Int) ∧ cy = .int .u64 (br : Int) ∧ v = .slice A2 k c2 ∧ RSub xs ys zs k br ∧ OwnN wr w.heap.size A2 k c2 zs ∧ Below w.heap.size w wr) (fun i _ _ _ => n - (intOf i).toNat)
 case atStart => exact ⟨0, 0, [], none, 0, by omega, rfl, rfl, rfl, RSub.start _ _, OwnN.nil _ _, Below.refl _ _⟩
 case round =>
  obtain ⟨k, br, zs, A2, c2, hk, rfl, rfl, rfl, hinv, how, bw⟩ := hrel
  have Hinv := Lib.hid hinv
  have hbr := hinv.2.2.2
  clear hinv
  have h_x := hx.below bw
  have h_y := hy.below bw
  by_cases hgo : k < n
  · have b1 := lim_lt hx.isN.small k
    have b2 := lim_lt hy.isN.small k
    obtain ⟨sl, hsl⟩ : ∃ sl, sl = diffLo (lim xs k) (lim ys k) br := ⟨_, rfl⟩
    obtain ⟨sh, hsh⟩ : ∃ sh, sh = diffHi (lim xs k) (lim ys k) br := ⟨_, rfl⟩
    have hpar := diff_parts b1 b2 hbr
    have hsl2 : sl < 4294967296 := by rw [hsl]; exact diffLo_lt _ _ _
    have Hst : RowKit.Hid (RSub xs ys (zs ++ [sl]) (k + 1) sh) := by
     show RSub _ _ _ _ _
     rw [hsl, hsh]; exact Hinv.out.step hx.isN.small hy.isN.small
    have Hown : RowKit.Hid ((wr.alloc (.cells #[Value.int IntKind.u32 (sl : Int)] 84)).ownsRow w.heap.size 84 1 (.slice A2 k c2) k (zs.map limV)) := (how.alloc _).row
    have Hlit : RowKit.Hid (NN (wr.alloc (.cells #[Value.int IntKind.u32 (sl : Int)] 84)) (some ⟨wr.heap.size, 0, none⟩) 1 1 [sl] (val [sl]) 1) := lit_c wr [sl] (by intro x hx; simp at hx; omega) 1 rfl
    have Hb : RowKit.Hid (k ≤ 1000000000 ∧ 1 ≤ 1000000000 ∧ w.heap.size ≤ (wr.alloc (.cells #[Value.int IntKind.u32 (sl : Int)] 84)).heap.size ∧ Small zs) := ⟨by omega, by omega, by have := bw.size; simp; omega, how.small⟩
    have How := Lib.hid how
    have Hbw := Lib.hid bw
    clear how bw
    by_cases hlt : lim xs k < lim ys k + br
    case' pos =>
     rw [diffHi_yes hlt] at hpar hsh
     subst hsh
     rw [← hsl] at hpar
     have es : ((lim xs k : Nat) : Int) + 4294967296 - (((lim ys k : Nat) : Int) + (br : Int)) = ((sl : Nat) : Int) := by omega
    case' neg =>
     rw [diffHi_no hlt] at hpar hsh
     subst hsh
     rw [← hsl] at hpar
     have es : ((lim xs k : Nat) : Int) - (((lim ys k : Nat) : Int) + (br : Int)) = ((sl : Nat) : Int) := by omega
    all_goals
     clear hpar hsl
     go_wp2_with fail
     refine (refAt_c h_x (by omega) k (by omega)).mono ?_
     rintro e w1 ⟨rfl, rfl⟩
     go_wp2_with fail
     refine (refAt_c h_y (by omega) k (by omega)).mono ?_
     rintro e w1 ⟨rfl, rfl⟩
     go_wp2_with (at_builtin; refine wpList_append_nat rfl _ _ rfl w.heap.size _ k zs rfl Hown (some ⟨wr.heap.size, 0, none⟩) 1 1 [sl] (val [sl]) 1 rfl Hlit Hb ?_)
     intro A3 c3 w3 how3 hg3
     have bw3 := below_grown Hbw.out How.out hg3.out
     have How3 := how3.out
     clear how3 hg3 Hown Hlit Hb How Hbw
     go_wp2
     go_roundw
     case rel => exact ⟨k + 1, _, zs ++ [sl], A3, c3, by omega, by go_num, rfl, rfl, Hst.out, How3, bw3⟩
     case measure => simp [intOf]; omega
  · obtain rfl : k = n := by omega
    have hv : val zs = a - b := by
     rw [Hinv.out.done Hlx.out (by rw [hx.val, hy.val]; exact Hab.out) hx.isN.small, hx.val, hy.val]
    have hz : NN wr A2 k c2 zs (a - b) L := ⟨how.isN, hv, how.caps.1, by omega⟩
    clear hv how
    go_wp2_with fail
    refine (refTrim_o hz (by omega)).mono ?_
    rintro e w4 ⟨A4, n4, c4, rfl, h4, bn⟩
    go_wp2
    go_ret
    exact ⟨_, _, _, rfl, h4.mono bw.size, below_two bw bn⟩
theorem refCmp_c {A A' : Option Addr} {n c n' c' : Nat} {xs ys : List Nat} {a b L L' : Nat} {w : World} (hx : NN w A n c xs a L) (hy : NN w A' n' c' ys b L') (h1 : L ≤ 1000000000) (h2 : L' ≤ 1000000000) (v : Int) (hv : cmpI a b = v) :
 Calls Tryz.prog 158 #[.slice A n c, .slice A' n' c'] w fun e w' => e = .returned (.int .i64 v) ∧ w = w' := by
 have := refCmp_any A n c xs A' n' c' ys w hx.isN hy.isN (by have := hx.le; omega) (by have := hy.le; omega)
 rwa [hx.val, hy.val, hv] at this
theorem refOf_c (v : Nat) (V : Int) (hV : V = v) (h : v < 18446744073709551616) (w : World) :
 Calls Tryz.prog 117 #[.int .u64 V] w fun e w' => ∃ A2 n2 c2, e = .returned (.slice A2 n2 c2) ∧ NN w' A2 n2 c2 (limbs v) v 2 ∧ Below w.heap.size w w' := by
 subst hV
 refine (refOf_any (v : Int) w (by omega) (by omega)).mono ?_
 rintro e w' ⟨A2, n2, c2, rfl, how, hb⟩
 rw [Int.toNat_natCast] at how
 exact ⟨A2, n2, c2, rfl, NN.own how (by omega), hb⟩
end Go.Proofs.YtohokfbohdoijaaGreatDoor

/- What math/bits' Div32 and package quo's Small answer, as contracts over memory: quotient and rest by one limb. Conditions: the list reads as limbs, of at most 10^8 of them; the high word is below the divisor. -/
namespace Go.Proofs.YtohokfbohdoijaaGreatDoor
open Go.RowKit Limb
set_option linter.unusedVariables false
theorem or_hi32 (x y : Nat) (hx : x < 4294967296) (hy : y < 4294967296) : bits BinOp.or IntKind.u64 ((x : Int) * 4294967296) (y : Int) = ((x * 4294967296 + y : Nat) : Int) := by
 have e1 : (x : Int) * 4294967296 = ((x * 4294967296 : Nat) : Int) := by omega
 rw [e1, u64_or_nat _ _ (by omega) (by omega), Nat.mul_comm x, show (4294967296 : Nat) = 2 ^ 32 from rfl, Nat.two_pow_add_eq_or_of_lt (by omega)]
set_option maxHeartbeats 400000 in
theorem div32_nat (x y v : Nat) (w : World) (hx : x < v) (hy : y < 4294967296) (hv : v < 4294967296) :
 Calls Tryz.prog 166 #[.int .u32 (x : Int), .int .u32 (y : Int), .int .u32 (v : Int)] w fun e w' => e = .returned (.tuple #[.int .u32 (((x * 4294967296 + y) / v : Nat) : Int), .int .u32 (((x * 4294967296 + y) % v : Nat) : Int)]) ∧ ∃ n, w' = w.drewN n := by
 have hz := one_digit hx hy
 have hm : (x * 4294967296 + y) % v < v := Nat.mod_lt _ (by omega)
 have hs : bits BinOp.or IntKind.u64 ((x : Int) * 4294967296) (y : Int) = ((x * 4294967296 + y : Nat) : Int) := or_hi32 x y (by omega) hy
 obtain ⟨z, hzz⟩ : ∃ z, z = x * 4294967296 + y := ⟨_, rfl⟩
 have hzl : z < 18446744073709551616 := by omega
 rw [← hzz] at hz hm hs ⊢
 obtain ⟨q, hq⟩ : ∃ q, q = z / v := ⟨_, rfl⟩
 obtain ⟨m, hm2⟩ : ∃ m, m = z % v := ⟨_, rfl⟩
 have eq1 : (z : Int) / (v : Int) = (q : Int) := by rw [hq]; simp
 have em1 : (z : Int) % (v : Int) = (m : Int) := by rw [hm2]; simp
 rw [← hq] at hz ⊢
 rw [← hm2] at hm ⊢
 have hv0 : ((v : Int) != 0) = true := by simp; omega
 have hv1 : ((v : Int) == 0) = false := by simp; omega
 clear hzz hq hm2
 go_enter Tryz.func166, Tryz.ntmps166
 go_wp2
 go_quiet (fail)
 go_wp2
 go_ret2
 exact ⟨rfl, _, rfl⟩
theorem ret_small {A : Option Addr} {n c r s : Nat} (h : r = s) : Ending.returned (.tuple #[.slice A n c, .int .u32 ((r : Nat) : Int), .bool true]) = .returned (.tuple #[.slice A n c, .int .u32 ((s : Nat) : Int), .bool true]) := by rw [h]
set_option maxHeartbeats 1000000 in
theorem quoSmall_o {A : Option Addr} {n c : Nat} {xs : List Nat} {a L : Nat} {w : World} (hx : NN w A n c xs a L) (h1 : L ≤ 100000) (v : Nat) (V : Int) (hV : V = v) (hv : v < 4294967296) (h0 : v ≠ 0) :
 Calls Tryz.prog 130 #[.slice A n c, .int .u32 V] w fun e w' => ∃ A1 n1 c1, e = .returned (.tuple #[.slice A1 n1 c1, .int .u32 ((a % v : Nat) : Int), .bool true]) ∧ OwnN w' w.heap.size A1 n1 c1 (limbs (a / v)) ∧ Below w.heap.size w w' := by
 subst hV
 have hv0 : ((v : Int) == 0) = false := by simp; omega
 have hle := hx.le
 have Hval := Lib.hid hx.val
 have Hlt := Lib.hid (lt_pow hx)
 have hT := trim_any A n c xs w hx.isN hx.cap (by omega)
 have hlt := trim_len_le xs
 have hl := hx.isN.len
 have hsm : Small (trim xs) := by rw [trim_eq_limbs hx.isN.small]; exact small_limbs _
 have Hvt : RowKit.Hid (val (trim xs) = a) := by show _ = _; rw [trim_eq_limbs hx.isN.small, val_limbs, Hval.out]
 have hlen : (trim xs).length ≤ 100000 := by omega
 clear hl hlt hx hle Hval
 go_enter Tryz.func130, Tryz.ntmps130
 go_wp2_with fail
 refine hT.mono ?_
 rintro e w1 ⟨A1, n1, c1, rfl, how, hb⟩
 generalize trim xs = ys at *
 have hyl := how.len
 subst hyl
 have How := Lib.hid how
 have Hb := Lib.hid hb
 have hi0 := Lib.hid (OneInv.start ys h0)
 clear how hb hT
 go_wp2
 go_loopw [7, 5] (fun i rv wr => ∃ (k r : Nat) (zs : List Nat), k ≤ ys.length ∧ i = .int .i64 ((k : Int) - 1) ∧ rv = .int .u32 (r : Int) ∧ RowKit.Hid (OneInv ys zs v k r) ∧ RowKit.Hid (OwnN wr w.heap.size A1 ys.length c1 zs) ∧ RowKit.Hid (Below w.heap.size w wr)) (fun i _ _ => (intOf i + 1).toNat)
 case atStart => exact ⟨ys.length, 0, ys, Nat.le_refl _, rfl, rfl, hi0, How, Hb⟩
 case round =>
  clear hi0 How Hb
  obtain ⟨k, r, zs, hk, rfl, rfl, Hinv, How, Hb⟩ := hrel
  by_cases hk0 : k = 0
  · subst hk0
    have hd := Hinv.out.done
    have Hd1 : RowKit.Hid (val zs = a / v) := by show _ = _; rw [hd.1, Hvt.out]
    have hr2 : r = a % v := by rw [hd.2, Hvt.out]
    have Hr := Lib.hid hr2
    have hz := How.out.isN
    have hcap := How.out.caps
    have hsz := How.out.small
    clear hd hr2
    go_wp2_with fail
    refine (trim_any A1 ys.length c1 zs _ hz hcap.1 (by omega)).mono ?_
    rintro e w2 ⟨A2, n2, c2, rfl, how2, hb2⟩
    rw [trim_eq_limbs hsz, Hd1.out] at how2
    have HN := Lib.hid (how2.mono Hb.out.size)
    have HW := Lib.hid (below_two Hb.out hb2)
    clear how2 hb2 hz hcap hsz Hinv How Hb
    go_wp2
    go_ret3
    exact ⟨_, _, _, ret_small Hr.out, HN.out, HW.out⟩
  · obtain ⟨j, rfl⟩ : ∃ j, k = j + 1 := ⟨k - 1, by omega⟩
    have ej : ((j + 1 : Nat) : Int) - 1 = (j : Int) := by omega
    rw [ej]
    obtain ⟨g, rfl, hBg, hgl⟩ := How.out.addr (by omega)
    have h2 := How.out.cell (k := j) (by omega)
    have hr := Hinv.out.2.2.2
    have hz := lim_lt How.out.small j
    clear ej
    go_wp2_with fail
    refine (div32_nat r (lim zs j) v _ hr hz hv).mono ?_
    rintro e w2 ⟨rfl, nd, rfl⟩
    have how2 := How.out.below (below_drewN (Below.refl _ _) nd) (Nat.le_refl _)
    have hb2 := below_drewN Hb.out nd
    have hdl := one_digit hr hz
    have Hst := Lib.hid (Hinv.out.step (k := j) (by omega))
    generalize wr.drewN nd = w2 at *
    obtain ⟨q, hq⟩ : ∃ q, q = (r * 4294967296 + lim zs j) / v := ⟨_, rfl⟩
    obtain ⟨m, hm⟩ : ∃ m, m = (r * 4294967296 + lim zs j) % v := ⟨_, rfl⟩
    rw [← hq] at hdl Hst ⊢
    rw [← hm] at Hst ⊢
    have h3 := how2.cell (k := j) (by omega)
    have h4 := how2.1.frozenAt j
    have Hset := Lib.hid (how2.set j hdl)
    have Hb2 : RowKit.Hid (Below w.heap.size w (w2.setCell ⟨g, j, none⟩ (.int .u32 (q : Int)))) := hb2.setCell (by exact hBg) _
    clear hq hm How Hb Hinv how2 hb2 h2 hz
    go_wp2
    go_roundw
    case rel => exact ⟨j, m, zs.set j q, by omega, by go_num, rfl, Hst, Hset, Hb2⟩
    case measure => simp [intOf] <;> omega
theorem quoSmall_yes {A : Option Addr} {n c : Nat} {xs : List Nat} {a L : Nat} {w : World} (hx : NN w A n c xs a L) (h1 : L ≤ 100000) (v : Nat) (V : Int) (hV : V = v) (hv : v < 4294967296) (h0 : v ≠ 0) :
 Calls Tryz.prog 130 #[.slice A n c, .int .u32 V] w fun e w' => ∃ A1 n1 c1, e = .returned (.tuple #[.slice A1 n1 c1, .int .u32 ((a % v : Nat) : Int), .bool true]) ∧ NN w' A1 n1 c1 (limbs (a / v)) (a / v) L ∧ Below w.heap.size w w' := by
 have Hlt := Lib.hid (lt_pow hx)
 refine (quoSmall_o hx h1 v V hV hv h0).mono ?_
 rintro e w' ⟨A1, n1, c1, rfl, how, hb⟩
 exact ⟨A1, n1, c1, rfl, NN.own how (Nat.lt_of_le_of_lt (Nat.div_le_self _ _) Hlt.out), hb⟩
end Go.Proofs.YtohokfbohdoijaaGreatDoor

/- What package quo's lessen and raise answer, as contracts over memory: a multiple of a row is taken from another one, a row is paid back. Conditions: the row that is written is the call's own, one limb longer than the other; at most 10^9 limbs. -/
namespace Go.Proofs.YtohokfbohdoijaaGreatDoor
open Go.RowKit Limb
set_option linter.unusedVariables false
set_option maxHeartbeats 1000000 in
theorem lessen_any (w0 w : World) (hb : Below w0.heap.size w0 w) (g m cs : Nat) (rs : List Nat) (how : OwnN w w0.heap.size (some ⟨g, 0, none⟩) (m + 1) cs rs)
 (A : Option Addr) (c : Nat) (bs : List Nat) (hx : IsN w0 A m bs) (v : Nat) (V : Int) (hV : V = v) (hv : v < 4294967296) (hm : m ≤ 1000000000) (t : Bool) (ht : decide (val rs < v * val bs) = t) :
 Calls Tryz.prog 183 #[.slice (some ⟨g, 0, none⟩) (m + 1) cs, .slice A m c, .int .u32 V] w fun e w' => e = .returned (.bool t) ∧
  (∃ zs tt, OwnN w' w0.heap.size (some ⟨g, 0, none⟩) (m + 1) cs zs ∧ val (zs.take m) + v * val bs = val (rs.take m) + tt * 4294967296 ^ m) ∧ Below w0.heap.size w0 w' ∧ Others g w w' := by
 subst hV
 have hBg : w0.heap.size ≤ g := by
  obtain ⟨g', e, h1, _⟩ := how.addr (by omega)
  injection e with e; injection e with e; subst e; exact h1
 have hsr := how.small
 have hsx := hx.small
 have Hxl := Lib.hid hx.len
 have Hrl := Lib.hid how.len
 have Ht := Lib.hid ht
 have Hi0 := Lib.hid (LessInv.start rs bs v)
 have How := Lib.hid how
 have Hb := Lib.hid hb
 clear ht how hb
 go_enter Tryz.func183, Tryz.ntmps183
 go_wp2
 go_loopw [13, 7, 8] (fun i cy bo wr => ∃ (k cr br : Nat) (zs : List Nat), k ≤ m ∧ i = .int .i64 (k : Int) ∧ cy = .int .u64 (cr : Int) ∧ bo = .int .u32 (br : Int) ∧ RowKit.Hid (LessInv rs bs zs v k cr br) ∧ RowKit.Hid (OwnN wr w0.heap.size (some ⟨g, 0, none⟩) (m + 1) cs zs) ∧ RowKit.Hid (Below w0.heap.size w0 wr) ∧ RowKit.Hid (Others g w wr)) (fun i _ _ _ => m - (intOf i).toNat)
 case atStart => exact ⟨0, 0, 0, rs, Nat.zero_le _, rfl, rfl, rfl, Hi0, How, Hb, Others.refl _ _⟩
 case round =>
  clear How Hb Hi0
  obtain ⟨k, cr, br, zs, hk, rfl, rfl, rfl, Hinv, How, Hb, Ho⟩ := hrel
  have hcr := Hinv.out.2.2.2.1
  have hbr := Hinv.out.2.2.2.2
  by_cases hkm : k < m
  · obtain ⟨b1, o1, rfl, hb1, hc1⟩ := hx.2.2 (by omega)
    have h1 : wr.cell? ⟨b1, o1 + k, none⟩ = some (.int .u32 ((lim bs k : Nat) : Int)) := (Hb.out.cell (p := ⟨b1, o1 + k, none⟩) hb1).trans (hc1 k hkm)
    have h3 := How.out.cell (k := k) (by omega)
    have h4 := How.out.1.frozenAt k
    have l1 := lim_lt hsx k
    have l2 := lim_lt How.out.small k
    have hq := limb_prod l1 hv
    have hq1 : ((lim bs k : Nat) : Int) * (v : Int) ≤ 18446744065119617025 := by
     have : ((lim bs k * v : Nat) : Int) ≤ 18446744065119617025 := by omega
     rwa [Int.natCast_mul] at this
    have hq0 : 0 ≤ ((lim bs k : Nat) : Int) * (v : Int) := by
     have : 0 ≤ ((lim bs k * v : Nat) : Int) := by omega
     rwa [Int.natCast_mul] at this
    obtain ⟨lo, hlo⟩ : ∃ lo, lo = (cr + lim bs k * v) % 4294967296 := ⟨_, rfl⟩
    obtain ⟨hi, hhi⟩ : ∃ hi, hi = (cr + lim bs k * v) / 4294967296 := ⟨_, rfl⟩
    have eI : ((lim bs k * v : Nat) : Int) = ((lim bs k : Nat) : Int) * (v : Int) := Int.natCast_mul _ _
    have hlo2 : lo < 4294967296 := by omega
    have hsum : cr + lim bs k * v = lo + hi * 4294967296 := by omega
    have elo : ((cr : Int) + ((lim bs k : Nat) : Int) * (v : Int)) % 4294967296 = (lo : Int) := by omega
    have ehi : ((cr : Int) + ((lim bs k : Nat) : Int) * (v : Int)) / 4294967296 = (hi : Int) := by omega
    have hdl := diffLo_lt (lim zs k) lo br
    have Hst := Lib.hid (Hinv.out.step hsr (by have := Hrl.out; omega) hsx hv hlo2 hsum)
    have Hset := Lib.hid (How.out.set k hdl)
    have Hb2 : RowKit.Hid (Below w0.heap.size w0 (wr.setCell ⟨g, k, none⟩ (.int .u32 ((diffLo (lim zs k) lo br : Nat) : Int)))) := Hb.out.setCell (by exact hBg) _
    have Ho2 : RowKit.Hid (Others g w (wr.setCell ⟨g, k, none⟩ (.int .u32 ((diffLo (lim zs k) lo br : Nat) : Int)))) := Ho.out.setCell k _
    clear hq hlo hhi hsum eI
    go_wp2_with (go_at_call 195; (with_reducible refine (sub32_nat (lim zs k) lo br _ l2 hlo2 hbr).mono ?_); rintro e w2 ⟨rfl, rfl⟩)
    go_roundw
    case rel => exact ⟨k + 1, hi, _, _, by omega, by go_num, rfl, rfl, Hst, Hset, Hb2, Ho2⟩
    case measure => simp [intOf]; omega
  · obtain rfl : k = m := by omega
    have h3 := How.out.cell (k := k) (by omega)
    have hv0 := Hinv.out.2.1
    have hl0 := Hinv.out.2.2.1 k (Nat.le_refl _)
    have hbt : bs.take k = bs := List.take_of_length_le (by rw [Hxl.out]; exact Nat.le_refl _)
    rw [hbt] at hv0
    have hzt := val_lt (small_take How.out.small k)
    rw [List.length_take, How.out.len, Nat.min_eq_left (by omega)] at hzt
    have hR : val rs = val (rs.take k) + 4294967296 ^ k * lim rs k := by
     have := val_take_lim rs k
     rwa [List.take_of_length_le (by rw [Hrl.out]; exact Nat.le_refl _)] at this
    have Htop := Lib.hid (less_top hv0 hzt hR)
    have Hv0 := Lib.hid hv0
    have l2 := lim_lt How.out.small k
    rw [← hl0] at Htop
    clear hv0 hl0 hbt hzt hR Hinv
    by_cases hlt : lim zs k < cr + br
    · have Ht2 : RowKit.Hid (t = true) := by show _ = _; rw [← Ht.out]; simpa using Htop.out.2 hlt
      have hd : decide (((lim zs k : Nat) : Int) < (cr : Int) + (br : Int)) = true := by simp; omega
      go_wp2
      go_ret
      exact ⟨ret_bool Ht2.out.symm, ⟨zs, _, How.out, Hv0.out⟩, Hb.out, Ho.out⟩
    · have Ht2 : RowKit.Hid (t = false) := by show _ = _; rw [← Ht.out]; simpa using fun h => hlt (Htop.out.1 h)
      have hd : decide (((lim zs k : Nat) : Int) < (cr : Int) + (br : Int)) = false := by simp; omega
      go_wp2
      go_ret
      exact ⟨ret_bool Ht2.out.symm, ⟨zs, _, How.out, Hv0.out⟩, Hb.out, Ho.out⟩
set_option maxHeartbeats 1000000 in
theorem raise_any (w0 w : World) (hb : Below w0.heap.size w0 w) (g m cs : Nat) (rs : List Nat) (how : OwnN w w0.heap.size (some ⟨g, 0, none⟩) (m + 1) cs rs)
 (A : Option Addr) (c : Nat) (bs : List Nat) (hx : IsN w0 A m bs) (hm : m ≤ 1000000000) :
 Calls Tryz.prog 184 #[.slice (some ⟨g, 0, none⟩) (m + 1) cs, .slice A m c] w fun e w' => e = .returned (.tuple #[]) ∧
  (∃ zs cc, OwnN w' w0.heap.size (some ⟨g, 0, none⟩) (m + 1) cs zs ∧ val (zs.take m) + cc * 4294967296 ^ m = val (rs.take m) + val bs) ∧ Below w0.heap.size w0 w' ∧ Others g w w' := by
 have hBg : w0.heap.size ≤ g := by
  obtain ⟨g', e, h1, _⟩ := how.addr (by omega)
  injection e with e; injection e with e; subst e; exact h1
 have hsr := how.small
 have hsx := hx.small
 have Hxl := Lib.hid hx.len
 have Hrl := Lib.hid how.len
 have Hi0 := Lib.hid (AddInv.start rs bs)
 have How := Lib.hid how
 have Hb := Lib.hid hb
 clear how hb
 go_enter Tryz.func184, Tryz.ntmps184
 go_wp2
 go_loopw [9, 4] (fun i cy wr => ∃ (k cr : Nat) (zs : List Nat), k ≤ m ∧ i = .int .i64 (k : Int) ∧ cy = .int .u32 (cr : Int) ∧ RowKit.Hid (AddInv rs bs zs k cr) ∧ RowKit.Hid (OwnN wr w0.heap.size (some ⟨g, 0, none⟩) (m + 1) cs zs) ∧ RowKit.Hid (Below w0.heap.size w0 wr) ∧ RowKit.Hid (Others g w wr)) (fun i _ _ => m - (intOf i).toNat)
 case atStart => exact ⟨0, 0, rs, Nat.zero_le _, rfl, rfl, Hi0, How, Hb, Others.refl _ _⟩
 case round =>
  clear How Hb Hi0
  obtain ⟨k, cr, zs, hk, rfl, rfl, Hinv, How, Hb, Ho⟩ := hrel
  have hcr := Hinv.out.2.2.2
  by_cases hkm : k < m
  · obtain ⟨b1, o1, rfl, hb1, hc1⟩ := hx.2.2 (by omega)
    have h1 : wr.cell? ⟨b1, o1 + k, none⟩ = some (.int .u32 ((lim bs k : Nat) : Int)) := (Hb.out.cell (p := ⟨b1, o1 + k, none⟩) hb1).trans (hc1 k hkm)
    have h3 := How.out.cell (k := k) (by omega)
    have h4 := How.out.1.frozenAt k
    have l1 := lim_lt hsx k
    have l2 := lim_lt How.out.small k
    have hdl := sumLo_lt (lim zs k) (lim bs k) cr
    have Hst := Lib.hid (Hinv.out.step hsr hsx (by have := Hrl.out; omega))
    have Hset := Lib.hid (How.out.set k hdl)
    have Hb2 : RowKit.Hid (Below w0.heap.size w0 (wr.setCell ⟨g, k, none⟩ (.int .u32 ((sumLo (lim zs k) (lim bs k) cr : Nat) : Int)))) := Hb.out.setCell (by exact hBg) _
    have Ho2 : RowKit.Hid (Others g w (wr.setCell ⟨g, k, none⟩ (.int .u32 ((sumLo (lim zs k) (lim bs k) cr : Nat) : Int)))) := Ho.out.setCell k _
    go_wp2_with (go_at_call 196; (with_reducible refine (add32_nat (lim zs k) (lim bs k) cr _ l2 l1 hcr).mono ?_); rintro e w2 ⟨rfl, rfl⟩)
    go_roundw
    case rel => exact ⟨k + 1, _, _, by omega, by go_num, rfl, Hst, Hset, Hb2, Ho2⟩
    case measure => simp [intOf]; omega
  · obtain rfl : k = m := by omega
    have hv0 := Hinv.out.2.1
    have hbt : bs.take k = bs := List.take_of_length_le (by rw [Hxl.out]; exact Nat.le_refl _)
    rw [hbt] at hv0
    have Hv0 := Lib.hid hv0
    clear hv0 hbt Hinv
    go_wp2
    first | go_end0 | refine bodyPost_ret (results_none rfl _ _ _) rfl ?_
    exact ⟨rfl, ⟨zs, _, How.out, Hv0.out⟩, Hb.out, Ho.out⟩
end Go.Proofs.YtohokfbohdoijaaGreatDoor

/- What package quo's guess and takeOut answer, as contracts over memory: how often a row is in another one. Conditions: the row that is written is the call's own, one limb longer than the other, and less than it times 2^32; the other one has two limbs or more, its highest bit set; at most 10^9 limbs. -/
namespace Go.Proofs.YtohokfbohdoijaaGreatDoor
open Go.RowKit Limb
set_option linter.unusedVariables false
theorem guessV_dec {top high next r2 o p : Nat} (ho : guessO top high = o) (h1 : top - o * high ≤ 4294967295) (h2 : (top - o * high) * 4294967296 + r2 < o * next) (hp : o = p + 1) : guessV top high next r2 = p := by
 unfold guessV guessT
 rw [ho]
 simp [h1, h2]
 omega
theorem guessV_far {top high next r2 o : Nat} (ho : guessO top high = o) (h1 : ¬ top - o * high ≤ 4294967295) : guessV top high next r2 = o := by
 unfold guessV guessT
 rw [ho]
 simp [h1]
theorem guessV_stay {top high next r2 o : Nat} (ho : guessO top high = o) (h2 : ¬ (top - o * high) * 4294967296 + r2 < o * next) : guessV top high next r2 = o := by
 unfold guessV guessT
 rw [ho]
 simp [h2]
def Still (w w' : World) : Prop := Below w.heap.size w w' ∧ ∀ g, Others g w w'
theorem still_drewN {a w : World} (h : Still a w) (n : Nat) : Still a (w.drewN n) := ⟨below_drewN h.1 n, h.2⟩
theorem still_refl (w : World) : Still w w := ⟨Below.refl _ _, fun _ => Others.refl _ _⟩
set_option maxHeartbeats 2000000 in
theorem guess_any (w : World) (A : Option Addr) (n c : Nat) (rs : List Nat) (hr : IsN w A (n + 1) rs) (A' : Option Addr) (c' : Nat) (bs : List Nat) (hx : IsN w A' n bs) (hn : 2 ≤ n) (hm : n ≤ 1000000000) (hh : 0 < lim bs (n - 1)) (q : Nat)
 (hq : guessV (lim rs n * 4294967296 + lim rs (n - 1)) (lim bs (n - 1)) (lim bs (n - 2)) (lim rs (n - 2)) = q) :
 Calls Tryz.prog 182 #[.slice A (n + 1) c, .slice A' n c'] w fun e w' => e = .returned (.int .u32 (q : Int)) ∧ Still w w' := by
 obtain ⟨b1, o1, rfl, hb1, hc1⟩ := hr.2.2 (by omega)
 obtain ⟨b2, o2, rfl, hb2, hc2⟩ := hx.2.2 (by omega)
 have r0 := hc1 n (by omega)
 have r1 := hc1 (n - 1) (by omega)
 have r2 := hc1 (n - 2) (by omega)
 have x1 := hc2 (n - 1) (by omega)
 have x2 := hc2 (n - 2) (by omega)
 have l0 := lim_lt hr.small n
 have l1 := lim_lt hr.small (n - 1)
 have l2 := lim_lt hr.small (n - 2)
 have m1 := lim_lt hx.small (n - 1)
 have m2 := lim_lt hx.small (n - 2)
 have Hq := Lib.hid hq
 clear hq hr hx hc1 hc2
 obtain ⟨high, hhi⟩ : ∃ h, h = lim bs (n - 1) := ⟨_, rfl⟩
 obtain ⟨next, hne⟩ : ∃ h, h = lim bs (n - 2) := ⟨_, rfl⟩
 obtain ⟨t0, ht0⟩ : ∃ h, h = lim rs n := ⟨_, rfl⟩
 obtain ⟨t1, ht1⟩ : ∃ h, h = lim rs (n - 1) := ⟨_, rfl⟩
 obtain ⟨t2, ht2⟩ : ∃ h, h = lim rs (n - 2) := ⟨_, rfl⟩
 rw [← hhi] at x1 m1 hh Hq
 rw [← hne] at x2 m2 Hq
 rw [← ht0] at r0 l0 Hq
 rw [← ht1] at r1 l1 Hq
 rw [← ht2] at r2 l2 Hq
 clear hhi hne ht0 ht1 ht2
 have htop : bits BinOp.or IntKind.u64 ((t0 : Int) * 4294967296) (t1 : Int) = ((t0 * 4294967296 + t1 : Nat) : Int) := or_hi32 t0 t1 l0 l1
 have htl : t0 * 4294967296 + t1 < 18446744073709551616 := by omega
 obtain ⟨top, htp⟩ : ∃ h, h = t0 * 4294967296 + t1 := ⟨_, rfl⟩
 rw [← htp] at htop htl Hq
 clear htp
 go_enter Tryz.func182, Tryz.ntmps182
 go_wp2
 go_quiet (fail)
 have hw := Lib.hid (still_drewN (still_refl w) nq)
 have r0' : (w.drewN nq).cell? ⟨b1, o1 + n, none⟩ = some (.int .u32 (t0 : Int)) := r0
 have r1' : (w.drewN nq).cell? ⟨b1, o1 + (n - 1), none⟩ = some (.int .u32 (t1 : Int)) := r1
 have r2' : (w.drewN nq).cell? ⟨b1, o1 + (n - 2), none⟩ = some (.int .u32 (t2 : Int)) := r2
 clear r0 r1 r2 x1 x2
 generalize w.drewN nq = w2 at *
 go_wp2
 go_quiet (fail)
 replace hw := Lib.hid (still_drewN hw.out nq)
 have r2 : (w2.drewN nq).cell? ⟨b1, o1 + (n - 2), none⟩ = some (.int .u32 (t2 : Int)) := r2'
 clear r0' r1' r2' htop
 generalize w2.drewN nq = w3 at *
 have hom := guessO_mul top high
 have hol := guessO_le top high
 obtain ⟨o, ho⟩ : ∃ o, guessO top high = o := ⟨_, rfl⟩
 have Ho := Lib.hid ho
 rw [ho] at hom hol
 obtain ⟨oh, hoh⟩ : ∃ x, x = o * high := ⟨_, rfl⟩
 obtain ⟨on, hon⟩ : ∃ x, x = o * next := ⟨_, rfl⟩
 have eoh : (o : Int) * (high : Int) = (oh : Int) := by rw [hoh]; exact (Int.natCast_mul _ _).symm
 have eon : (o : Int) * (next : Int) = (on : Int) := by rw [hon]; exact (Int.natCast_mul _ _).symm
 have hon2 : on ≤ 18446744065119617025 := by rw [hon]; exact Nat.mul_le_mul hol (show next ≤ 4294967295 by omega)
 rw [← hoh] at hom
 obtain ⟨left, hleft⟩ : ∃ x, x = top - oh := ⟨_, rfl⟩
 have eleft : (top : Int) - (oh : Int) = (left : Int) := by omega
 have hh1 : ((high : Int) == 0) = false := by simp; omega
 have Hfar : RowKit.Hid (¬ left ≤ 4294967295 → q = o) := fun h => by rw [← Hq.out]; exact guessV_far Ho.out (by rw [← hoh, ← hleft]; exact h)
 have Hstay : RowKit.Hid (¬ left * 4294967296 + t2 < on → q = o) := fun h => by rw [← Hq.out]; exact guessV_stay Ho.out (by rw [← hoh, ← hleft, ← hon]; exact h)
 have Hdec : RowKit.Hid (left ≤ 4294967295 → left * 4294967296 + t2 < on → ∀ p, o = p + 1 → q = p) := fun h1 h2 p hp => by
  rw [← Hq.out]; exact guessV_dec Ho.out (by rw [← hoh, ← hleft]; exact h1) (by rw [← hoh, ← hleft, ← hon]; exact h2) hp
 have hlt : left ≤ top := by omega
 obtain ⟨tq, htq⟩ : ∃ x, x = top / high := ⟨_, rfl⟩
 have etq : (top : Int) / (high : Int) = (tq : Int) := by rw [htq]; simp
 have htq2 : tq ≤ top := by rw [htq]; exact Nat.div_le_self _ _
 have homin : o = min tq 4294967295 := by rw [htq]; exact ho.symm
 clear ho hoh hon hleft htq Hq Ho
 obtain ⟨s, hs⟩ : ∃ x, x = left * 4294967296 + t2 := ⟨_, rfl⟩
 rw [← hs] at Hstay Hdec
 have Hs : RowKit.Hid (left ≤ 4294967295 → bits BinOp.or IntKind.u64 ((left : Int) * 4294967296) (t2 : Int) = (s : Int)) := fun h => by rw [hs]; exact or_hi32 left t2 (by omega) l2
 have Hon0 : RowKit.Hid (s < on → o ≠ 0) := by
  intro h h0
  rw [h0] at eon
  simp at eon
  omega
 clear hs
 by_cases hc : tq ≤ 4294967295
 case' pos =>
  obtain rfl : o = tq := by rw [homin]; exact Nat.min_eq_left hc
  have Hp : RowKit.Hid (s < on → ∃ p : Nat, o = p + 1 ∧ (o : Int) - 1 = (p : Int)) := fun h => ⟨o - 1, by have := Hon0.out h; omega, by have := Hon0.out h; omega⟩
  have ho : (o : Int) = (o : Int) := rfl
 case' neg =>
  obtain rfl : o = 4294967295 := by rw [homin]; exact Nat.min_eq_right (by omega)
  replace eoh : (4294967295 : Int) * (high : Int) = (oh : Int) := eoh
  replace eon : (4294967295 : Int) * (next : Int) = (on : Int) := eon
  have Hp : RowKit.Hid (s < on → ∃ p : Nat, 4294967295 = p + 1 ∧ (4294967295 : Int) - 1 = (p : Int)) := fun h => ⟨4294967294, by omega, by omega⟩
  have ho : (4294967295 : Int) = ((4294967295 : Nat) : Int) := rfl
 all_goals
  clear homin Hon0
  have Hho := Lib.hid ho
  clear ho
  by_cases c1 : left ≤ 4294967295
  · have hor := Hs.out c1
    by_cases c2 : s < on
    · obtain ⟨p, hp1, hp2⟩ := Hp.out c2
      have Hr : RowKit.Hid (q = p) := Hdec.out c1 c2 p hp1
      have Hp1 := Lib.hid hp1
      clear Hdec Hfar Hstay Hp hp1
      go_wp2
      go_ret
      exact ⟨ret_int (by first | (rw [Hr.out]; done) | (rw [Hr.out]; omega)), hw.out⟩
    · have Hr := Lib.hid (Hstay.out c2)
      have c3 : on ≤ s := by omega
      clear Hdec Hfar Hstay Hp c2
      go_wp2
      go_ret
      exact ⟨ret_int (by first | (rw [Hr.out]; done) | (rw [Hr.out]; omega)), hw.out⟩
  · have Hr := Lib.hid (Hfar.out c1)
    have c3 : 4294967295 < left := by omega
    clear Hdec Hfar Hstay Hp c1
    go_wp2
    go_ret
    exact ⟨ret_int (by first | (rw [Hr.out]; done) | (rw [Hr.out]; omega)), hw.out⟩
set_option maxHeartbeats 1000000 in
theorem takeOut_any (w0 w : World) (hb : Below w0.heap.size w0 w) (g m cs : Nat) (rs : List Nat) (how : OwnN w w0.heap.size (some ⟨g, 0, none⟩) (m + 1) cs rs)
 (A : Option Addr) (c : Nat) (bs : List Nat) (hx : IsN w0 A m bs) (hm2 : 2 ≤ m) (hm : m ≤ 1000000000) (hh : 2147483648 ≤ lim bs (m - 1)) (hlt : val rs < val bs * 4294967296) (q : Nat) (hq : val rs / val bs = q) :
 Calls Tryz.prog 167 #[.slice (some ⟨g, 0, none⟩) (m + 1) cs, .slice A m c] w fun e w' => e = .returned (.int .u32 (q : Int)) ∧
  (∃ zs, OwnN w' w0.heap.size (some ⟨g, 0, none⟩) (m + 1) cs zs ∧ val (zs.take m) = val rs % val bs) ∧ Below w0.heap.size w0 w' ∧ Others g w w' := by
 have hrl := how.len
 have hbl := hx.len
 obtain ⟨G, hG⟩ : ∃ G, guessV (lim rs m * 4294967296 + lim rs (m - 1)) (lim bs (m - 1)) (lim bs (m - 2)) (lim rs (m - 2)) = G := ⟨_, rfl⟩
 obtain ⟨g1, g2, g3⟩ := guess_ok how.small hx.small hm2 hrl hbl hh hlt hG
 rw [hq] at g1 g2
 have hR : val rs = val (rs.take m) + 4294967296 ^ m * lim rs m := by
  have := val_take_lim rs m
  rwa [List.take_of_length_le (by rw [hrl]; exact Nat.le_refl _)] at this
 have hdm := Nat.div_add_mod (val rs) (val bs)
 rw [hq] at hdm
 have hb0 : 0 < val bs := by
  rcases Nat.eq_zero_or_pos (val bs) with h | h
  · rw [h] at hlt; omega
  · exact h
 have hml := Nat.mod_lt (val rs) hb0
 have hbP := val_lt hx.small
 rw [hbl] at hbP
 have hr : val rs = q * val bs + val rs % val bs := by rw [Nat.mul_comm]; exact hdm.symm
 have HR := Lib.hid hR
 have Hr := Lib.hid hr
 have HrP := Lib.hid (Nat.lt_trans hml hbP)
 have Hml := Lib.hid hml
 have HG := Lib.hid hG
 have hi1 := how.isN
 have hi2 := hx.below hb
 have Hhow := Lib.hid how
 have Hb := Lib.hid hb
 have Hx := Lib.hid hx
 have hG4 : G < 4294967296 := by omega
 clear hR hdm hq hr hml hbP hG hrl hbl how hb hlt
 go_enter Tryz.func167, Tryz.ntmps167
 go_wp2_with fail
 refine (guess_any w (some ⟨g, 0, none⟩) m cs rs hi1 A c bs hi2 hm2 hm (by omega) G HG.out).mono ?_
 rintro e w1 ⟨rfl, hst⟩
 have Hhow1 := Lib.hid (Hhow.out.below hst.1 (Nat.le_refl _))
 have Hb1 := Lib.hid (Hb.out.trans (hst.1.mono Hb.out.size))
 have Ho1 := Lib.hid (hst.2 g)
 clear hst Hhow Hb hi1 hi2
 by_cases hc : G = q
 · subst hc
   have Hf : RowKit.Hid (decide (val rs < G * val bs) = false) := by
    show _ = _
    rw [decide_eq_false_iff_not]; have := Hr.out; omega
   go_wp2_with fail
   refine (lessen_any w0 w1 Hb1.out g m cs rs Hhow1.out A c bs Hx.out G _ rfl hG4 hm false Hf.out).mono ?_
   rintro e w2 ⟨rfl, ⟨zs, tt, hz, hv⟩, hb2, ho2⟩
   have Hz := Lib.hid hz
   have hzt := val_lt (small_take hz.small m)
   rw [List.length_take, hz.len, Nat.min_eq_left (by omega)] at hzt
   have Hv := Lib.hid (less_fits hv hzt HR.out Hr.out HrP.out)
   have Hb2 := Lib.hid hb2
   have Ho2 := Lib.hid (show Others g w w2 from fun k hk => (ho2 k hk).trans (Ho1.out k hk))
   clear hz hzt hv hb2 ho2
   go_wp2
   go_ret
   exact ⟨rfl, ⟨zs, Hz.out, Hv.out⟩, Hb2.out, Ho2.out⟩
 · obtain rfl : G = q + 1 := by omega
   have Hf : RowKit.Hid (decide (val rs < (q + 1) * val bs) = true) := by
    show _ = _
    rw [decide_eq_true_iff, Nat.add_mul, Nat.one_mul]; have := Hr.out; have := Hml.out; omega
   go_wp2_with fail
   refine (lessen_any w0 w1 Hb1.out g m cs rs Hhow1.out A c bs Hx.out (q + 1) _ (by omega) hG4 hm true Hf.out).mono ?_
   rintro e w2 ⟨rfl, ⟨zs, tt, hz, hv⟩, hb2, ho2⟩
   have hv' := hv
   rw [Nat.add_mul, Nat.one_mul] at hv'
   have Hv := Lib.hid hv'
   have Ho2 := Lib.hid (show Others g w w2 from fun k hk => (ho2 k hk).trans (Ho1.out k hk))
   clear hv hv' ho2
   go_wp2_with fail
   refine (raise_any w0 w2 hb2 g m cs zs hz A c bs Hx.out hm).mono ?_
   rintro e w3 ⟨rfl, ⟨ys, cc, hy, hv2⟩, hb3, ho3⟩
   have hyt := val_lt (small_take hy.small m)
   rw [List.length_take, hy.len, Nat.min_eq_left (by omega)] at hyt
   have Hv2 := Lib.hid (less_back Hv.out HR.out Hr.out HrP.out hv2 hyt)
   have Hy := Lib.hid hy
   have Hb3 := Lib.hid hb3
   have Ho3 := Lib.hid (show Others g w w3 from fun k hk => (ho3 k hk).trans (Ho2.out k hk))
   clear hz hv2 hy hb2 hb3 ho3 hyt
   go_wp2
   go_ret
   exact ⟨ret_int (by omega), ⟨ys, Hy.out, Hv2.out⟩, Hb3.out, Ho3.out⟩
end Go.Proofs.YtohokfbohdoijaaGreatDoor

/- Rows of bytes that the call itself made: what they read as, stores, growth by append, the text of one. No condition. -/
namespace Go.Proofs.YtohokfbohdoijaaGreatDoor
open Go.RowKit Limb
set_option linter.unusedVariables false
def byV (x : Nat) : Value := .int .u8 (x : Int)
def IsB (w : World) (A : Option Addr) (n : Nat) (xs : List Nat) : Prop :=
 xs.length = n ∧ Bytes xs ∧ (0 < n → ∃ b o, A = some ⟨b, o, none⟩ ∧ b < w.heap.size ∧ ∀ j, j < n → w.cell? ⟨b, o + j, none⟩ = some (.int .u8 ((lim xs j : Nat) : Int)))
theorem IsB.below {w w' : World} {A : Option Addr} {n : Nat} {xs : List Nat} (h : IsB w A n xs) (hb : Below w.heap.size w w') : IsB w' A n xs := by
 refine ⟨h.1, h.2.1, fun hn => ?_⟩
 obtain ⟨b, o, e, hlt, hc⟩ := h.2.2 hn
 exact ⟨b, o, e, Nat.lt_of_lt_of_le hlt hb.size, fun j hj => (hb.cell (p := ⟨b, o + j, none⟩) hlt).trans (hc j hj)⟩
def OwnB (w : World) (B : Nat) (A : Option Addr) (n c : Nat) (zs : List Nat) : Prop :=
 w.ownsRow B 5 1 (.slice A n c) n (zs.map byV) ∧ Bytes zs
section
variable {w w' : World} {B B' C : Nat} {A : Option Addr} {n c : Nat} {zs : List Nat}
theorem OwnB.len (h : OwnB w B A n c zs) : zs.length = n := by
 have := h.1.1; simpa using this
theorem OwnB.bytes (h : OwnB w B A n c zs) : Bytes zs := h.2
theorem OwnB.caps (h : OwnB w B A n c zs) : n ≤ c ∧ c ≤ maxLen := by
 rcases h.1.2 with ⟨hv, h0⟩ | ⟨g, cap, cur, hv, hg, hh, h1, h2, _⟩
 · injection hv with _ _ hc; subst hc; subst h0; exact ⟨Nat.le_refl _, Nat.zero_le _⟩
 · injection hv with _ _ hc; subst hc; exact ⟨h1, h2⟩
theorem OwnB.nil (w : World) (B : Nat) : OwnB w B none 0 0 [] := ⟨World.ownsRow_nil _ _ _ _, bytes_nil⟩
theorem OwnB.addr (h : OwnB w B A n c zs) (hn : 0 < n) : ∃ g, A = some ⟨g, 0, none⟩ ∧ B ≤ g ∧ g < w.heap.size := by
 rcases h.1.2 with ⟨_, h0⟩ | ⟨g, cap, cur, hv, hg, hh, _⟩
 · omega
 · injection hv with hA
   refine ⟨g, hA, hg, ?_⟩
   rcases Nat.lt_or_ge g w.heap.size with hlt | hge
   · exact hlt
   · rw [Array.getElem?_eq_none hge] at hh; cases hh
theorem OwnB.cell {g : Nat} (h : OwnB w B (some ⟨g, 0, none⟩) n c zs) {k : Nat} (hk : k < n) : w.cell? ⟨g, k, none⟩ = some (.int .u8 ((lim zs k : Nat) : Int)) := by
 have hl := h.len
 rw [h.1.cellAt k (by omega), List.getElem?_map, List.getElem?_eq_getElem (by omega)]
 simp [byV, lim, List.getD_eq_getElem?_getD, List.getElem?_eq_getElem (show k < zs.length by omega)]
theorem OwnB.set {g : Nat} (h : OwnB w B (some ⟨g, 0, none⟩) n c zs) (k : Nat) {v : Nat} (hv : v < 256) :
 OwnB (w.setCell ⟨g, k, none⟩ (.int .u8 ((v : Nat) : Int))) B (some ⟨g, 0, none⟩) n c (zs.set k v) := by
 have := (h.1.stored k (byV v)).1
 rw [← List.map_set] at this
 exact ⟨this, bytes_set h.2 k v hv⟩
theorem OwnB.below (h : OwnB w B A n c zs) (hb : Below C w w') (hC : w.heap.size ≤ C) : OwnB w' B A n c zs := by
 refine ⟨⟨h.1.1, ?_⟩, h.2⟩
 rcases h.1.2 with h2 | ⟨g, cap, cur, hv, hg, hh, r⟩
 · exact .inl h2
 · refine .inr ⟨g, cap, cur, hv, hg, ?_, r⟩
   have hlt : g < w.heap.size := by
    rcases Nat.lt_or_ge g w.heap.size with hlt | hge
    · exact hlt
    · rw [Array.getElem?_eq_none hge] at hh; cases hh
   rw [hb.block g (by omega)]
   exact hh
theorem OwnB.mono (h : OwnB w B A n c zs) (hB : B' ≤ B) : OwnB w B' A n c zs := by
 refine ⟨⟨h.1.1, ?_⟩, h.2⟩
 rcases h.1.2 with h2 | ⟨g, cap, cur, hv, hg, r⟩
 · exact .inl h2
 · exact .inr ⟨g, cap, cur, hv, Nat.le_trans hB hg, r⟩
theorem OwnB.row (h : OwnB w B A n c zs) : w.ownsRow B 5 1 (.slice A n c) n (zs.map byV) := h.1
theorem OwnB.alloc (h : OwnB w B A n c zs) (o : Obj) : OwnB (w.alloc o) B A n c zs := ⟨h.1.alloc o, h.2⟩
end
theorem run_text {w : World} {A : Option Addr} {n c : Nat} {xs : List Nat} (h : IsB w A n xs) (hn : 0 < n) : (convert 131 9 (.slice A n c)).run Tryz.prog w = .ok (.string (strOf xs)) w := by
 obtain ⟨b, o, rfl, _, hc⟩ := h.2.2 hn
 have hl : (xs.map UInt8.ofNat).length = n := by rw [List.length_map, h.1]
 have hr := run_convert_bytes_back (P := Tryz.prog) w 131 9 5 ⟨b, o, none⟩ c (xs.map UInt8.ofNat) Tryz.underlying131 Tryz.underlying5 Tryz.underlying9 (fun j hj => ?_)
 · rw [hl] at hr
   exact hr
 · have hj2 : j < xs.length := by simpa using hj
   have e : (⟨b, o, none⟩ : Addr).add j = ⟨b, o + j, none⟩ := by unfold Addr.add; split <;> simp_all
   rw [e, hc j (by rw [← h.1]; exact hj2), List.getElem_map, UInt8.toNat_ofNat']
   have e2 : lim xs j = xs[j] := by simp [lim, List.getD_eq_getElem?_getD, List.getElem?_eq_getElem hj2]
   have e3 := h.2.1 xs[j] (List.getElem_mem hj2)
   rw [e2, Nat.mod_eq_of_lt e3]
end Go.Proofs.YtohokfbohdoijaaGreatDoor

/- What package quo's divide answers, as a contract over memory: the quotient in its shortest limbs, and what is left. Conditions: both read as limbs; the divisor has two limbs or more, its highest bit set, and is not longer than the number; at most 10^8 limbs. -/
namespace Go.Proofs.YtohokfbohdoijaaGreatDoor
open Go.RowKit Limb
set_option linter.unusedVariables false
theorem step_copy_nat {w : World} {ops : Array Oper} {o : Oper} {a : Act} {K : Act → World → Prop} {Q : Exit → Act → World → Prop} {E : Prop} (hgd : o.guard = none) (d s : Operand)
 (ho : o.op = .call { callee := .builtin .copy, args := #[d, s], argTypes := #[29, 29] })
 (g off dLen dCap : Nat) (sp : Option Addr) (sLen sCap : Nat) (hd : a.eval d = .slice (some ⟨g, off, none⟩) dLen dCap) (hs : a.eval s = .slice sp sLen sCap)
 (B n : Nat) (zs : List Nat) (hown : Hid (OwnN w B (some ⟨g, 0, none⟩) n n zs)) (ys : List Nat) (hy : Hid (IsN w sp sLen ys)) (hlen : Hid (0 < sLen ∧ sLen ≤ dLen ∧ off + sLen ≤ n))
 (h : ∀ w', Hid (OwnN w' B (some ⟨g, 0, none⟩) n n (lay zs off ys)) → Hid (Others g w w') → Hid (∀ w0, Below B w0 w → Below B w0 w') → K (a.put o.dst (goInt sLen)) w') :
 if Region.wanted o (yielded ops a.tmps) = true then Oper.wp Tryz.prog o a w K Q else E := by
 have hw : Region.wanted o (yielded ops a.tmps) = true := by simp [Region.wanted, hgd]
 rw [if_pos hw]
 have hyl := hy.out.len
 obtain ⟨h0, h1, h2⟩ := hlen.out
 obtain ⟨b, ob, rfl, hb1, hcell⟩ := hy.out.2.2 (by omega)
 have hzl := hown.out.len
 rcases hown.out.1.2 with ⟨hv, _⟩ | ⟨g2, cap, cur, hv, hg, hh, h3, h4, h5, h6⟩
 · cases hv
 · injection hv with e1 e2 e3
   injection e1 with e1
   injection e1 with e1
   subst e1
   subst e3
   rw [Nat.mul_one] at h5 h6
   have hcur : cur.toList = zs.map limV := by rw [← h6, List.take_of_length_le (by simp [h5])]
   have hb : ∀ w0, Below B w0 w → Below B w0 (w.setRow g (cur.toList.take off ++ ((ys.map limV) ++ cur.toList.drop (off + (ys.map limV).length))).toArray) := fun w0 hb => below_setRow hb hg _
   have ho' : Others g w (w.setRow g (cur.toList.take off ++ ((ys.map limV) ++ cur.toList.drop (off + (ys.map limV).length))).toArray) := fun k hk => setRow_other w g k _ hk
   have hn : OwnN (w.setRow g (cur.toList.take off ++ ((ys.map limV) ++ cur.toList.drop (off + (ys.map limV).length))).toArray) B (some ⟨g, 0, none⟩) n n (lay zs off ys) := by
    have hl2 : (lay zs off ys).length = n := by rw [lay_length (by omega), hzl]
    refine ⟨⟨by simp [hl2], .inr ⟨g, n, _, rfl, hg, setRow_heap w g _ _ _ _ hh, Nat.le_refl _, h4, ?_, ?_⟩⟩, lay_small hown.out.small hy.out.small⟩
    · rw [hcur]; simp; omega
    · rw [hcur, List.take_of_length_le (by simp; omega)]
      simp [lay, List.map_append, List.map_take, List.map_drop]
   have e2 : goInt (ys.map limV).length = goInt sLen := by rw [List.length_map, hyl]
   have hrun := run_copy_row (P := Tryz.prog) w 29 29 o.type 84 g off dLen dCap ⟨b, ob, none⟩ sLen sCap cur 84 (ys.map limV) Tryz.underlying29 u32_size hh (by rw [List.length_map, hyl]; exact (Nat.min_eq_left h1).symm) ?_ ?_ (oneCell_u32 ys)
   · unfold Oper.wp
     simp only [execOp, ho, resolve, invoke, builtin, Sem.run_bind, Sem.run_pure, Result.andThen_ok, List.map_toArray, List.map_cons, List.map_nil, hd, hs, hrun]
     rw [e2, List.append_assoc]
     exact h _ hn ho' hb
   · intro j v hv
     obtain ⟨hj, rfl⟩ := map_u32_get hv
     have e : (⟨b, ob, none⟩ : Addr).add j = ⟨b, ob + j, none⟩ := by unfold Addr.add; split <;> simp_all
     rw [e]
     exact hcell j (by omega)
   · rw [h5]; simp; omega
theorem lay_start (xs : List Nat) (m : Nat) (h : xs.length + 1 = m) : lay (List.replicate (m + 1) 0) 0 xs = xs ++ [0, 0] := by
 simp only [lay, List.take_zero, List.nil_append, Nat.zero_add, List.drop_replicate]
 rw [show m + 1 - xs.length = 2 by omega]
 rfl
theorem lay_up (rs : List Nat) (m x : Nat) (h : rs.length = m + 1) : (lay rs 1 (rs.take m)).set 0 x = x :: rs.take m := by
 cases rs with
 | nil => simp at h
 | cons r rs => simp [lay]; simp at h; omega
set_option maxHeartbeats 2000000 in
theorem divide_any (A : Option Addr) (n c : Nat) (xs : List Nat) (A' : Option Addr) (m c' : Nat) (ys : List Nat) (w : World) (hx : IsN w A n xs) (hy : IsN w A' m ys) (hn : n ≤ 100000000) (hc : n ≤ c) (hm2 : 2 ≤ m) (hmn : m ≤ n) (hh : 2147483648 ≤ lim ys (m - 1)) :
 Calls Tryz.prog 132 #[.slice A n c, .slice A' m c'] w fun e w' => ∃ A1 n1 c1 A2 c2 zs, e = .returned (.tuple #[.slice A1 n1 c1, .slice A2 m c2]) ∧ OwnN w' w.heap.size A1 n1 c1 (limbs (val xs / val ys)) ∧
  (OwnN w' w.heap.size A2 m c2 zs ∧ val zs = val xs % val ys) ∧ Below w.heap.size w w' := by
 obtain ⟨s, hs⟩ : ∃ s, s = n - m + 1 := ⟨_, rfl⟩
 have es : (n : Int) - (m : Int) + 1 = (s : Int) := by omega
 have hs1 : s + m = n + 1 := by omega
 clear hs
 obtain ⟨b1, o1, rfl, hb1, hc1⟩ := hx.2.2 (by omega)
 have hsrc : IsN w (some ⟨b1, o1 + s, none⟩) (m - 1) (xs.drop s) := by
  refine ⟨by rw [List.length_drop, hx.len]; omega, small_drop hx.small _, fun _ => ⟨b1, o1 + s, rfl, hb1, fun j hj => ?_⟩⟩
  rw [lim_drop, Nat.add_assoc]
  exact hc1 (s + j) (by omega)
 have e1 : n - s = m - 1 := by omega
 have hsn : s < n := by omega
 have hmk1 := run_made ((m : Int) + 1) (m + 1) (by omega) (by omega)
 have hmk2 := run_made (s : Int) s rfl (by omega)
 have b2 := below_new w (.cells (madeCells #[.int .u32 0] (m + 1)) 84)
 have Hs := Lib.hid (own_made w (m + 1) (by omega))
 have Hu := Lib.hid (hsrc.below b2)
 have Hb2 := Lib.hid b2
 have Hlen2 : RowKit.Hid (m - 1 ≤ m + 1 ∧ 0 + (m - 1) ≤ m + 1) := ⟨by omega, by omega⟩
 have Hst := Lib.hid (DivInv.start hx.small (by rw [hx.len]; exact hs1) hm2 hy.len (by omega : 0 < lim ys (m - 1)))
 have Hlay := Lib.hid (lay_start (xs.drop s) m (by rw [hsrc.len]; omega))
 have Hxl := Lib.hid hx.len
 have hsx := hx.small
 clear b2 hsrc
 go_enter Tryz.func132, Tryz.ntmps132
 go_wp2_with (with_reducible refine wpList_copy_nat rfl (.tmp 20) (.tmp 23) rfl w.heap.size 0 (m + 1) (m + 1) (some ⟨b1, o1 + s, none⟩) (m - 1) (c - s) rfl rfl w.heap.size (m + 1) (List.replicate (m + 1) 0) Hs (xs.drop s) Hu Hlen2 ?_)
 intro w3 Ho Hoth Hbel
 rw [Hlay.out] at Ho
 have Hb3 := Lib.hid (Hbel.out w Hb2.out)
 clear Hs Hu Hb2 Hlen2 Hoth Hbel hmk1 Hlay
 have b4 := below_new w3 (.cells (madeCells #[.int .u32 0] s) 84)
 have Hq := Lib.hid ((own_made w3 s (by omega)).mono Hb3.out.size)
 have Hr := Lib.hid (Ho.out.below b4 (Nat.le_refl _))
 have Hb4 := Lib.hid (below_two Hb3.out b4)
 obtain ⟨g2, hg2⟩ : ∃ g2, g2 = w3.heap.size := ⟨_, rfl⟩
 have hgg : w.heap.size < g2 := by
  obtain ⟨g', e, _, h⟩ := Ho.out.addr (by omega)
  injection e with e; injection e with e; subst e; omega
 have Hg2 := Lib.hid hg2
 rw [← hg2] at Hq
 clear b4 Ho Hb3 hg2
 go_wp2
 rw [← Hg2.out]
 have HR := Hr
 go_loopw [9] (fun i wr => ∃ (k : Nat) (rs qs : List Nat), k ≤ s ∧ i = .int .i64 ((k : Int) - 1) ∧ RowKit.Hid (DivInv xs ys rs qs m k) ∧ RowKit.Hid (OwnN wr w.heap.size (some ⟨w.heap.size, 0, none⟩) (m + 1) (m + 1) rs) ∧
  RowKit.Hid (OwnN wr w.heap.size (some ⟨g2, 0, none⟩) s s qs) ∧ RowKit.Hid (Below w.heap.size w wr)) (fun i _ => (intOf i + 1).toNat)
 case atStart => exact ⟨s, _, _, Nat.le_refl _, rfl, Hst, Hr, Hq, Hb4⟩
 case round =>
  clear Hst Hr Hq Hb4 HR hmk2
  obtain ⟨k, rs, qs, hk, rfl, Hinv, Hr, Hq, Hb⟩ := hrel
  by_cases hk0 : k = 0
  · subst hk0
    have hd := Hinv.out.done
    have Hd1 := Lib.hid hd.1
    have hr0 := Hr.out.take (m := m) (by omega)
    have Hr0 := Lib.hid hr0
    have Hd2 := Lib.hid hd.2
    have hz := Hq.out.isN
    have hsz := Hq.out.small
    have Hbs := Lib.hid Hb.out.size
    clear hd hr0 Hinv Hr
    have hle2 : (m : Int) ≤ (m : Int) + 1 := by omega
    go_wp2
    go_region_with (go_at_call 102; refine (trim_any (some ⟨g2, 0, none⟩) s s qs _ (hz.below (Below.refl _ _).drew) (Nat.le_refl _) (by omega)).mono ?_; rintro e w5 ⟨A1, n1, c1, rfl, how, hb5⟩)
    all_goals
     have How : RowKit.Hid (OwnN w5 w.heap.size A1 n1 c1 (limbs (val xs / val ys))) := by
      rw [trim_eq_limbs hsz, Hd1.out] at how
      exact how.mono Hbs.out
     have Hr9 : RowKit.Hid (OwnN w5 w.heap.size (some ⟨w.heap.size, 0, none⟩) m (m + 1) (rs.take m)) := Hr0.out.below (C := wr.heap.size) ((Below.refl wr.heap.size wr).drew.trans hb5) (Nat.le_refl _)
     have HW : RowKit.Hid (Below w.heap.size w w5) := Hb.out.trans (((Below.refl wr.heap.size wr).drew.trans hb5).mono Hbs.out)
     clear how hb5 hz hsz Hq Hb Hr0
     go_wp2
     go_ret2
     exact ⟨_, _, _, _, _, rs.take m, rfl, How.out, ⟨Hr9.out, Hd2.out⟩, HW.out⟩
  · obtain ⟨j, rfl⟩ : ∃ j, k = j + 1 := ⟨k - 1, by omega⟩
    have ej : ((j + 1 : Nat) : Int) - 1 = (j : Int) := by omega
    rw [ej]
    have Hr1 : RowKit.Hid (OwnN wr.drew w.heap.size (some ⟨w.heap.size, 0, none⟩) (m + 1) (m + 1) rs) := Hr.out.below (C := _) (Below.refl _ _).drew (Nat.le_refl _)
    have Hq1 : RowKit.Hid (OwnN wr.drew w.heap.size (some ⟨g2, 0, none⟩) s s qs) := Hq.out.below (C := _) (Below.refl _ _).drew (Nat.le_refl _)
    have Hb1 : RowKit.Hid (Below w.heap.size w wr.drew) := Hb.out.drew
    have Hsrc := Lib.hid ((Hr1.out.isN).take (m := m) (by omega))
    have Hl2 : RowKit.Hid (0 < m ∧ m ≤ m ∧ 1 + m ≤ m + 1) := ⟨by omega, by omega, by omega⟩
    have Hrl := Lib.hid Hr.out.len
    have hle : 1 ≤ (m : Int) + 1 := by omega
    have hle2 : (m : Int) ≤ (m : Int) + 1 := by omega
    have hm0 : m ≠ 0 := by omega
    clear ej Hr Hq Hb
    go_wp2
    go_region_law ((refine step_copy_nat rfl (.tmp 34) (.tmp 37) rfl w.heap.size 1 m m (some ⟨w.heap.size, 0, none⟩) m (m + 1) (by simp [Act.eval, Act.put]) (by simp [Act.eval, Act.put]) w.heap.size (m + 1) rs Hr1 (rs.take m) Hsrc Hl2 ?_; intro w4 Hr4 Ho4 Hbel4))
    all_goals
     have Hb4 := Lib.hid (Hbel4.out w Hb1.out)
     have Hq4 : RowKit.Hid (OwnN w4 w.heap.size (some ⟨g2, 0, none⟩) s s qs) := Hq1.out.others Ho4.out (by intro b o t e; injection e with e; injection e with e; omega)
     have l1 := lim_lt hsx j
     have hcx : w4.cell? ⟨b1, o1 + j, none⟩ = some (.int .u32 ((lim xs j : Nat) : Int)) := (Hb4.out.cell (p := ⟨b1, o1 + j, none⟩) hb1).trans (hc1 j (by omega))
     have f4 := Hr4.out.1.frozenAt 0
     have c4 := Hr4.out.cell (k := 0) (by omega)
     have Hset : RowKit.Hid (OwnN (w4.setCell ⟨w.heap.size, 0, none⟩ (.int .u32 ((lim xs j : Nat) : Int))) w.heap.size (some ⟨w.heap.size, 0, none⟩) (m + 1) (m + 1) (lim xs j :: rs.take m)) := by
      have h := Hr4.out.set 0 l1
      rw [lay_up rs m _ Hrl.out] at h
      exact h
     have Hb5 : RowKit.Hid (Below w.heap.size w (w4.setCell ⟨w.heap.size, 0, none⟩ (.int .u32 ((lim xs j : Nat) : Int)))) := Hb4.out.setCell (by exact Nat.le_refl _) _
     have Hq5 : RowKit.Hid (OwnN (w4.setCell ⟨w.heap.size, 0, none⟩ (.int .u32 ((lim xs j : Nat) : Int))) w.heap.size (some ⟨g2, 0, none⟩) s s qs) := Hq4.out.others ((Others.refl w.heap.size w4).setCell 0 _) (by intro b o t e; injection e with e; injection e with e; omega)
     have hlt := Hinv.out.lt l1
     have hb0 : 0 < val ys := Nat.lt_of_le_of_lt (Nat.zero_le _) Hinv.out.2
     obtain ⟨q, hq⟩ : ∃ q, val (lim xs j :: rs.take m) / val ys = q := ⟨_, rfl⟩
     have hq4 : q < 4294967296 := by rw [← hq, Nat.div_lt_iff_lt_mul hb0, Nat.mul_comm]; exact hlt
     have Hlt := Lib.hid hlt
     have Hqe := Lib.hid hq
     have hm9 : m ≤ 1000000000 := by omega
     clear Ho4 Hbel4 Hb1 Hq1 Hr1 Hsrc Hl2 Hb4 Hq4 Hr4 hlt hq hb0
     go_wp2_with fail
     refine (takeOut_any w _ Hb5.out w.heap.size m (m + 1) _ Hset.out A' c' ys hy hm2 hm9 hh Hlt.out q Hqe.out).mono ?_
     rintro e w6 ⟨rfl, ⟨zs, hz, hv⟩, hb6, ho6⟩
     have Hq6 : RowKit.Hid (OwnN w6 w.heap.size (some ⟨g2, 0, none⟩) s s qs) := Hq5.out.others ho6 (by intro b o t e; injection e with e; injection e with e; omega)
     have f6 := Hq6.out.1.frozenAt j
     have c6 := Hq6.out.cell (k := j) (by omega)
     have Hq7 := Lib.hid (Hq6.out.set j hq4)
     have Hr7 : RowKit.Hid (OwnN (w6.setCell ⟨g2, j, none⟩ (.int .u32 (q : Int))) w.heap.size (some ⟨w.heap.size, 0, none⟩) (m + 1) (m + 1) zs) := hz.others ((Others.refl g2 w6).setCell j _) (by intro b o t e; injection e with e; injection e with e; omega)
     have Hb7 : RowKit.Hid (Below w.heap.size w (w6.setCell ⟨g2, j, none⟩ (.int .u32 (q : Int)))) := hb6.setCell (by exact Nat.le_of_lt hgg) _
     have Hst : RowKit.Hid (DivInv xs ys zs (qs.set j q) m j) := by
      have h := Hinv.out.step (by rw [Hxl.out]; omega) (by rw [Hq6.out.len]; omega) hv
      rw [Hqe.out] at h
      exact h
     clear hz hv hb6 ho6 Hq6 Hq5 Hb5 Hset Hlt Hqe Hinv
     go_wp2
     go_roundw
     case rel => exact ⟨j, zs, qs.set j q, by omega, by go_num, Hst, Hr7, Hq7, Hb7⟩
     case measure => simp [intOf] <;> omega
end Go.Proofs.YtohokfbohdoijaaGreatDoor

/- What package mul's down answers, as a contract over memory: a number moved down by bits, in shortest limbs, in new memory. Conditions: the list reads as limbs, of at most 10^8 of them; moves of at most 8192 bits. -/
namespace Go.Proofs.YtohokfbohdoijaaGreatDoor.Limb
def downLimb (ys : List Nat) (r j : Nat) : Nat := lim ys j / 2 ^ r ||| lim ys (j + 1) * 2 ^ (32 - r) % 4294967296
theorem downLimb_lt {ys : List Nat} (hy : Small ys) (r j : Nat) : downLimb ys r j < 4294967296 := by
 have h1 : lim ys j / 2 ^ r < 2 ^ 32 := Nat.lt_of_le_of_lt (Nat.div_le_self _ _) (lim_lt hy j)
 have h2 : lim ys (j + 1) * 2 ^ (32 - r) % 4294967296 < 2 ^ 32 := Nat.mod_lt _ (by decide)
 exact Nat.or_lt_two_pow h1 h2
theorem downLimb_last {ys : List Nat} (r j : Nat) (h : ys.length ≤ j + 1) : downLimb ys r j = lim ys j / 2 ^ r := by
 unfold downLimb; rw [lim_of_ge h]; simp
theorem val_down {ys zs : List Nat} {r : Nat} (hy : Small ys) (hz : Small zs) (hr : r < 32) (hl : zs.length = ys.length) (h : ∀ j, j < ys.length → lim zs j = downLimb ys r j) : val zs = val ys / 2 ^ r := by
 refine Nat.eq_of_testBit_eq fun i => ?_
 rw [testBit_lim zs hz, Nat.testBit_div_two_pow, testBit_lim ys hy]
 by_cases hj : i / 32 < ys.length
 · rw [h _ hj, downLimb, Nat.testBit_or, Nat.testBit_div_two_pow, show (4294967296 : Nat) = 2 ^ 32 from rfl, Nat.testBit_mod_two_pow, Nat.testBit_mul_two_pow]
   have hq : i % 32 < 32 := Nat.mod_lt _ (by decide)
   by_cases hc : i % 32 + r < 32
   · have e1 : (i + r) / 32 = i / 32 := by omega
     have e2 : (i + r) % 32 = i % 32 + r := by omega
     have e3 : ¬ (32 - r ≤ i % 32) := by omega
     rw [e1, e2]
     simp [e3]
   · have e1 : (i + r) / 32 = i / 32 + 1 := by omega
     have e2 : (i + r) % 32 = i % 32 - (32 - r) := by omega
     have e3 : 32 - r ≤ i % 32 := by omega
     have e4 : (lim ys (i / 32)).testBit (i % 32 + r) = false := Nat.testBit_lt_two_pow (Nat.lt_of_lt_of_le (lim_lt hy _) (by
      have : 2 ^ 32 ≤ 2 ^ (i % 32 + r) := Nat.pow_le_pow_right (by decide) (by omega)
      simpa using this))
     rw [e1, e2, e4]
     simp [e3, hq]
 · rw [lim_of_ge (by omega), lim_of_ge (xs := ys) (by omega)]
   simp
theorem val_drop {xs : List Nat} (hx : Small xs) (k : Nat) (hk : k ≤ xs.length) : val (xs.drop k) = val xs / 4294967296 ^ k := by
 have h1 := val_split xs k hk
 have h2 := val_lt (small_take hx k)
 rw [List.length_take, Nat.min_eq_left hk] at h2
 rw [h1, Nat.add_mul_div_left _ _ (Nat.pow_pos (by decide)), Nat.div_eq_of_lt h2, Nat.zero_add]
theorem div_move (a n : Nat) : a / 4294967296 ^ (n / 32) / 2 ^ (n % 32) = a / 2 ^ n := by
 rw [Nat.div_div_eq_div_mul, pow_move]
def DownInv (ys zs : List Nat) (r k : Nat) : Prop := zs.length = ys.length ∧ (∀ j, j < k → lim zs j = downLimb ys r j) ∧ ∀ j, k ≤ j → lim zs j = lim ys j
theorem DownInv.start (ys : List Nat) (r : Nat) : DownInv ys ys r 0 := ⟨rfl, fun j hj => by omega, fun _ _ => rfl⟩
theorem DownInv.step {ys zs : List Nat} {r k v : Nat} (h : DownInv ys zs r k) (hk : k < ys.length) (hv : v = downLimb ys r k) : DownInv ys (zs.set k v) r (k + 1) := by
 obtain ⟨h1, h2, h3⟩ := h
 refine ⟨by simpa using h1, fun j hj => ?_, fun j hj => by rw [lim_set_ne (by omega)]; exact h3 j (by omega)⟩
 by_cases e : j = k
 · subst e; rw [lim_set_self (by omega), hv]
 · rw [lim_set_ne (fun h => e h.symm)]; exact h2 j (by omega)
theorem set_set {zs : List Nat} {k u v : Nat} : (zs.set k u).set k v = zs.set k v := by simp
end Go.Proofs.YtohokfbohdoijaaGreatDoor.Limb
namespace Go.Proofs.YtohokfbohdoijaaGreatDoor
open Go.RowKit Limb
set_option linter.unusedVariables false
set_option maxHeartbeats 1000000 in
theorem mulDown_any (A : Option Addr) (n c : Nat) (xs : List Nat) (k : Nat) (V : Int) (hV : V = k) (w : World) (hx : IsN w A n xs) (hm : n ≤ 90000000) (hc : n ≤ c) (hk : k ≤ 8192) :
 Calls Tryz.prog 168 #[.slice A n c, .int .i64 V] w fun e w' => ∃ A2 n2 c2, e = .returned (.slice A2 n2 c2) ∧ OwnN w' w.heap.size A2 n2 c2 (limbs (val xs / 2 ^ k)) ∧ Below w.heap.size w w' := by
 subst hV
 obtain ⟨q, hq⟩ : ∃ q, q = k / 32 := ⟨_, rfl⟩
 obtain ⟨r, hr⟩ : ∃ r, r = k % 32 := ⟨_, rfl⟩
 have Hk : RowKit.Hid (val xs / 4294967296 ^ q / 2 ^ r = val xs / 2 ^ k) := by show _ = _; rw [hq, hr]; exact div_move _ _
 have eq1 : (k : Int) / 32 = (q : Int) := by omega
 have er1 : (k : Int) % 32 = (r : Int) := by omega
 have hr32 : r < 32 := by omega
 have hq3 : q ≤ 256 := by omega
 clear hq hr
 by_cases hqn : n ≤ q
 · have Hf : RowKit.Hid (limbs (val xs / 2 ^ k) = []) := by
    show _ = _
    have h1 := val_lt hx.small
    rw [hx.len] at h1
    have h2 : 4294967296 ^ n ≤ 4294967296 ^ q := Nat.pow_le_pow_right (by decide) hqn
    rw [← Hk.out, Nat.div_eq_of_lt (Nat.lt_of_lt_of_le h1 h2), Nat.zero_div, limbs_zero]
   go_enter Tryz.func168, Tryz.ntmps168
   go_wp2
   go_ret
   exact ⟨_, _, _, rfl, by rw [Hf.out]; exact OwnN.nil _ _, Below.refl _ _⟩
 · have hqn : q < n := by omega
   obtain ⟨m, hm2⟩ : ∃ m, m = n - q := ⟨_, rfl⟩
   have em : (n : Int) - (q : Int) = (m : Int) := by omega
   have em2 : n - q = m := hm2.symm
   have hm0 : 0 < m := by omega
   have hmn : m ≤ 90000000 := by omega
   have hmk2 := run_made (m : Int) m rfl (by omega)
   obtain ⟨b1, o1, rfl, hb1, hc1⟩ := hx.2.2 (by omega)
   have hsrc : IsN w (some ⟨b1, o1 + q, none⟩) m (xs.drop q) := by
    refine ⟨by rw [List.length_drop, hx.len]; omega, small_drop hx.small _, fun _ => ⟨b1, o1 + q, rfl, hb1, fun j hj => ?_⟩⟩
    rw [lim_drop, Nat.add_assoc]
    exact hc1 (q + j) (by omega)
   have b2 := below_new w (.cells (madeCells #[.int .u32 0] m) 84)
   have Hs := Lib.hid (own_made w m (by omega))
   have Hu := Lib.hid (hsrc.below b2)
   have Hb2 := Lib.hid b2
   have Hlen2 : RowKit.Hid (m ≤ m ∧ 0 + m ≤ m) := ⟨Nat.le_refl _, by omega⟩
   have Hvd : RowKit.Hid (val (xs.drop q) = val xs / 4294967296 ^ q) := val_drop hx.small q (by rw [hx.len]; omega)
   obtain ⟨ys, hys⟩ : ∃ ys, ys = xs.drop q := ⟨_, rfl⟩
   rw [← hys] at hsrc Hu Hvd
   have hyl := hsrc.len
   have hysm := hsrc.small
   have Hyl := Lib.hid hyl
   clear hys hsrc b2 hx hc1 hm2 hyl
   go_enter Tryz.func168, Tryz.ntmps168
   go_wp2_with (with_reducible refine wpList_copy_nat rfl (.tmp 20) (.tmp 23) rfl w.heap.size 0 m m (some ⟨b1, o1 + q, none⟩) m (c - q) rfl rfl w.heap.size m (List.replicate m 0) Hs ys Hu Hlen2 ?_)
   intro w3 Ho Hoth Hbel
   have Hb3 := Lib.hid (Hbel.out w Hb2.out)
   have Ho3 : RowKit.Hid (OwnN w3 w.heap.size (some ⟨w.heap.size, 0, none⟩) m m ys) := by
    have h := Ho.out
    have e2 : lay (List.replicate m 0) 0 ys = ys := by simp [lay, Hyl.out]
    rw [e2] at h
    exact h
   clear Hs Hu Hb2 Hoth Hbel Ho
   go_wp2
   go_loopw [29] (fun i wr => ∃ (j : Nat) (zs : List Nat), j ≤ m ∧ i = .int .i64 (j : Int) ∧ RowKit.Hid (DownInv ys zs r j) ∧ RowKit.Hid (OwnN wr w.heap.size (some ⟨w.heap.size, 0, none⟩) m m zs) ∧ RowKit.Hid (Below w.heap.size w wr)) (fun i _ => m - (intOf i).toNat)
   case atStart => exact ⟨0, ys, Nat.zero_le _, rfl, DownInv.start _ _, Ho3, Hb3⟩
   case round =>
    clear Ho3 Hb3
    obtain ⟨j, zs, hj, rfl, Hinv, Ho, Hb⟩ := hrel
    by_cases hjm : j < m
    · have hsz := Ho.out.small
      have l1 := lim_lt hsz j
      have l2 := lim_lt hsz (j + 1)
      have h2 := Ho.out.cell (k := j) (by omega)
      have h3 := Ho.out.1.frozenAt j
      obtain ⟨t, ht⟩ : ∃ t, t = lim zs j / 2 ^ r := ⟨_, rfl⟩
      have et : ((lim zs j : Nat) : Int) / 2 ^ r = (t : Int) := by rw [ht]; simp
      have htl : t < 4294967296 := by rw [ht]; exact Nat.lt_of_le_of_lt (Nat.div_le_self _ _) l1
      have Ho1 : RowKit.Hid (OwnN (wr.setCell ⟨w.heap.size, j, none⟩ (.int .u32 (t : Int))) w.heap.size (some ⟨w.heap.size, 0, none⟩) m m (zs.set j t)) := Ho.out.set j htl
      have Hb1 : RowKit.Hid (Below w.heap.size w (wr.setCell ⟨w.heap.size, j, none⟩ (.int .u32 (t : Int)))) := Hb.out.setCell (by exact Nat.le_refl _) _
      have Hz : RowKit.Hid (lim zs j = lim ys j ∧ lim zs (j + 1) = lim ys (j + 1) ∧ zs.length = m) := ⟨Hinv.out.2.2 j (Nat.le_refl _), Hinv.out.2.2 (j + 1) (by omega), Ho.out.len⟩
      have Ht := Lib.hid ht
      by_cases hlast : j + 1 < m
      · have c1 : (wr.setCell ⟨w.heap.size, j, none⟩ (.int .u32 (t : Int))).cell? ⟨w.heap.size, j, none⟩ = some (.int .u32 (t : Int)) := by
         have := Ho1.out.cell (k := j) (by omega)
         rwa [lim_set_self (by rw [Hz.out.2.2]; omega)] at this
        have c2 : (wr.setCell ⟨w.heap.size, j, none⟩ (.int .u32 (t : Int))).cell? ⟨w.heap.size, j + 1, none⟩ = some (.int .u32 ((lim zs (j + 1) : Nat) : Int)) := by
         have := Ho1.out.cell (k := j + 1) (by omega)
         rwa [lim_set_ne (by omega)] at this
        have f1 := Ho1.out.1.frozenAt j
        have hle : (((j : Int) + 1)) < (m : Int) := by omega
        obtain ⟨d, hd⟩ : ∃ d, d = downLimb ys r j := ⟨_, rfl⟩
        have hdl : d < 4294967296 := by rw [hd]; exact downLimb_lt hysm _ _
        have Hbits : RowKit.Hid (bits BinOp.or IntKind.u32 (t : Int) (((lim zs (j + 1) : Nat) : Int) * 2 ^ (32 - r) % 4294967296) = (d : Int)) := by
         have e1 : (((lim zs (j + 1) : Nat) : Int) * 2 ^ (32 - r) % 4294967296) = ((lim zs (j + 1) * 2 ^ (32 - r) % 4294967296 : Nat) : Int) := by
          rw [Int.natCast_emod, Int.natCast_mul, Int.natCast_pow]; rfl
         show _ = _
         rw [e1, u32_or_nat _ _ htl (Nat.mod_lt _ (by decide)), hd, downLimb, ht, Hz.out.1, Hz.out.2.1]
        have Hst : RowKit.Hid (DownInv ys (zs.set j d) r (j + 1)) := Hinv.out.step (by rw [Hyl.out]; exact hjm) hd
        clear ht hd
        go_wp2
        clear h2 h3 et Ho Hb
        generalize wr.setCell ⟨w.heap.size, j, none⟩ (.int .u32 (t : Int)) = W1 at *
        go_region
        rw [Hbits.out]
        have Ho2 : RowKit.Hid (OwnN (W1.setCell ⟨w.heap.size, j, none⟩ (.int .u32 (d : Int))).drew w.heap.size (some ⟨w.heap.size, 0, none⟩) m m (zs.set j d)) := by
         have h := Ho1.out.set j hdl
         rw [set_set] at h
         exact h.below (C := _) (Below.refl _ _).drew (Nat.le_refl _)
        have Hb2 : RowKit.Hid (Below w.heap.size w (W1.setCell ⟨w.heap.size, j, none⟩ (.int .u32 (d : Int))).drew) := (Hb1.out.setCell (by exact Nat.le_refl _) _).drew
        clear Ho1 Hb1 c1 c2 f1 Hbits
        go_wp2
        go_roundw
        case rel => exact ⟨j + 1, zs.set j d, by omega, by go_num, Hst, Ho2, Hb2⟩
        case measure => simp [intOf]; omega
      · have Hst : RowKit.Hid (DownInv ys (zs.set j t) r (j + 1)) := Hinv.out.step (by rw [Hyl.out]; exact hjm) (by rw [downLimb_last _ _ (by rw [Hyl.out]; omega), ht, Hz.out.1])
        have hle : (m : Int) ≤ ((j : Int) + 1) := by omega
        clear ht
        go_wp2
        go_roundw
        case rel => exact ⟨j + 1, zs.set j t, by omega, by go_num, Hst, Ho1, Hb1⟩
        case measure => simp [intOf]; omega
    · obtain rfl : j = m := by omega
      have hz := Ho.out.isN
      have hzl := Ho.out.len
      have ht := trim_len_le zs
      have how2 := Ho.out.take (m := (trim zs).length) (by omega)
      rw [← trim_take zs] at how2
      have Hf : RowKit.Hid (trim zs = limbs (val xs / 2 ^ k)) := by
       show _ = _
       rw [trim_eq_limbs Ho.out.small, val_down hysm Ho.out.small hr32 (by rw [hzl, Hyl.out]) (fun i hi => Hinv.out.2.1 i (by rw [← Hyl.out]; exact hi)), Hvd.out, Hk.out]
      clear hzl
      go_wp2_with fail
      refine (mulCut_any _ _ _ zs _ hz (Nat.le_refl _) (by omega)).mono ?_
      rintro e w3 ⟨rfl, rfl⟩
      go_wp2
      go_ret
      refine ⟨_, (trim zs).length, _, rfl, ?_, Hb.out⟩
      rw [← Hf.out]
      exact how2
end Go.Proofs.YtohokfbohdoijaaGreatDoor

/- What math/bits' Len64 and Len answer: how many bits a word has; and package mul's Shift. Conditions: none for Len; for Shift the list reads as limbs, of at most 9*10^7 of them. -/
namespace Go.Proofs.YtohokfbohdoijaaGreatDoor
open Go.RowKit Limb
set_option linter.unusedVariables false
set_option maxHeartbeats 8000000 in
set_option maxRecDepth 100000 in
theorem len64_any (x : Int) (w : World) (h0 : 0 ≤ x) (h1 : x < 18446744073709551616) :
 Calls Tryz.prog 156 #[.int .u64 x] w fun e w' => e = .returned (.int .i64 ((blen x.toNat : Nat) : Int)) ∧ w = w' := by
 rw [← bitLen_blen x.toNat (by omega)]
 have hsz := len8tab_size
 by_cases c0 : x < 4294967296
 · by_cases c1 : x < 65536
   · by_cases c2 : x < 256
     · have e := len8_byte (x) (size_bound _ (by omega)) (by omega) (by omega)
       have l := Lib.bitLen_le8' (x) (by omega) (by omega)
       have H := Lib.hid (wrap_len0 _ (Lib.bitLen x.toNat) (e ▸ l) e.symm)
       clear e
       go_enter Tryz.func156, Tryz.ntmps156
       go_wp2
       go_ret
       exact ⟨ret_int H.out, rfl⟩
     · have e := len8_byte (x / 256) (size_bound _ (by omega)) (by omega) (by omega)
       have l := Lib.bitLen_le8' (x / 256) (by omega) (by omega)
       have s := Lib.bitLen_shift8 x.toNat (by omega) (by omega)
       rw [show x.toNat / 256 = (x / 256).toNat by omega] at s
       have H := Lib.hid (wrap_len 8 _ (Lib.bitLen x.toNat) (by omega) (e ▸ l) (by rw [e]; exact s))
       clear e s
       go_enter Tryz.func156, Tryz.ntmps156
       go_wp2
       go_ret
       exact ⟨ret_int H.out, rfl⟩
   · by_cases c2 : x / 65536 < 256
     · have e := len8_byte (x / 65536) (size_bound _ (by omega)) (by omega) (by omega)
       have l := Lib.bitLen_le8' (x / 65536) (by omega) (by omega)
       have s := Lib.bitLen_shift16 x.toNat (by omega) (by omega)
       rw [show x.toNat / 65536 = (x / 65536).toNat by omega] at s
       have H := Lib.hid (wrap_len 16 _ (Lib.bitLen x.toNat) (by omega) (e ▸ l) (by rw [e]; exact s))
       clear e s
       go_enter Tryz.func156, Tryz.ntmps156
       go_wp2
       go_ret
       exact ⟨ret_int H.out, rfl⟩
     · have e := len8_byte (x / 65536 / 256) (size_bound _ (by omega)) (by omega) (by omega)
       have l := Lib.bitLen_le8' (x / 65536 / 256) (by omega) (by omega)
       have s := Lib.bitLen_shift24 x.toNat (by omega) (by omega)
       rw [show x.toNat / 16777216 = (x / 65536 / 256).toNat by omega] at s
       have H := Lib.hid (wrap_len 24 _ (Lib.bitLen x.toNat) (by omega) (e ▸ l) (by rw [e]; exact s))
       clear e s
       go_enter Tryz.func156, Tryz.ntmps156
       go_wp2
       go_ret
       exact ⟨ret_int H.out, rfl⟩
 · by_cases c1 : x / 4294967296 < 65536
   · by_cases c2 : x / 4294967296 < 256
     · have e := len8_byte (x / 4294967296) (size_bound _ (by omega)) (by omega) (by omega)
       have l := Lib.bitLen_le8' (x / 4294967296) (by omega) (by omega)
       have s := Lib.bitLen_shift32 x.toNat (by omega) (by omega)
       rw [show x.toNat / 4294967296 = (x / 4294967296).toNat by omega] at s
       have H := Lib.hid (wrap_len 32 _ (Lib.bitLen x.toNat) (by omega) (e ▸ l) (by rw [e]; exact s))
       clear e s
       go_enter Tryz.func156, Tryz.ntmps156
       go_wp2
       go_ret
       exact ⟨ret_int H.out, rfl⟩
     · have e := len8_byte (x / 4294967296 / 256) (size_bound _ (by omega)) (by omega) (by omega)
       have l := Lib.bitLen_le8' (x / 4294967296 / 256) (by omega) (by omega)
       have s := Lib.bitLen_shift40 x.toNat (by omega) (by omega)
       rw [show x.toNat / 1099511627776 = (x / 4294967296 / 256).toNat by omega] at s
       have H := Lib.hid (wrap_len 40 _ (Lib.bitLen x.toNat) (by omega) (e ▸ l) (by rw [e]; exact s))
       clear e s
       go_enter Tryz.func156, Tryz.ntmps156
       go_wp2
       go_ret
       exact ⟨ret_int H.out, rfl⟩
   · by_cases c2 : x / 4294967296 / 65536 < 256
     · have e := len8_byte (x / 4294967296 / 65536) (size_bound _ (by omega)) (by omega) (by omega)
       have l := Lib.bitLen_le8' (x / 4294967296 / 65536) (by omega) (by omega)
       have s := Lib.bitLen_shift48 x.toNat (by omega) (by omega)
       rw [show x.toNat / 281474976710656 = (x / 4294967296 / 65536).toNat by omega] at s
       have H := Lib.hid (wrap_len 48 _ (Lib.bitLen x.toNat) (by omega) (e ▸ l) (by rw [e]; exact s))
       clear e s
       go_enter Tryz.func156, Tryz.ntmps156
       go_wp2
       go_ret
       exact ⟨ret_int H.out, rfl⟩
     · have e := len8_byte (x / 4294967296 / 65536 / 256) (size_bound _ (by omega)) (by omega) (by omega)
       have l := Lib.bitLen_le8' (x / 4294967296 / 65536 / 256) (by omega) (by omega)
       have s := Lib.bitLen_shift56 x.toNat (by omega) (by omega)
       rw [show x.toNat / 72057594037927936 = (x / 4294967296 / 65536 / 256).toNat by omega] at s
       have H := Lib.hid (wrap_len 56 _ (Lib.bitLen x.toNat) (by omega) (e ▸ l) (by rw [e]; exact s))
       clear e s
       go_enter Tryz.func156, Tryz.ntmps156
       go_wp2
       go_ret
       exact ⟨ret_int H.out, rfl⟩
theorem len_any (x : Int) (w : World) (h0 : 0 ≤ x) (h1 : x < 18446744073709551616) :
 Calls Tryz.prog 121 #[.int .u64 x] w fun e w' => e = .returned (.int .i64 ((blen x.toNat : Nat) : Int)) ∧ w = w' := by
 go_enter Tryz.func121, Tryz.ntmps121
 go_wp2_with fail
 refine (len64_any x w h0 h1).mono ?_
 rintro e w1 ⟨rfl, rfl⟩
 go_wp2
 go_ret
 exact ⟨rfl, rfl⟩
def shiftV (a : Nat) (n : Int) : Nat := if n < -8192 then 0 else if n < 0 then a / 2 ^ (-n).toNat else a * 2 ^ (min n 8192).toNat
theorem shiftV_far {a : Nat} {n : Int} (h : n < -8192) : shiftV a n = 0 := by simp [shiftV, h]
theorem shiftV_down {a : Nat} {n : Int} {k : Nat} (h : n < 0) (h2 : ¬ n < -8192) (hk : -n = k) : shiftV a n = a / 2 ^ k := by
 unfold shiftV; rw [if_neg h2, if_pos h, hk, Int.toNat_natCast]
theorem shiftV_up {a : Nat} {n : Int} {k : Nat} (h : ¬ n < 0) (hk : min n 8192 = k) : shiftV a n = a * 2 ^ k := by
 unfold shiftV; rw [if_neg (by omega), if_neg h, hk, Int.toNat_natCast]
set_option maxHeartbeats 1000000 in
theorem mulShift_any (A : Option Addr) (n c : Nat) (xs : List Nat) (V : Int) (w : World) (hx : IsN w A n xs) (hm : n ≤ 90000000) (hc : n ≤ c) (h0 : -9223372036854775808 ≤ V) (h1 : V ≤ 9223372036854775807) :
 Calls Tryz.prog 133 #[.slice A n c, .int .i64 V] w fun e w' => ∃ A2 n2 c2, e = .returned (.slice A2 n2 c2) ∧ OwnN w' w.heap.size A2 n2 c2 (limbs (shiftV (val xs) V)) ∧ Below w.heap.size w w' := by
 by_cases c1 : V < -8192
 · have Hf : RowKit.Hid (limbs (shiftV (val xs) V) = []) := by show _ = _; rw [shiftV_far c1, limbs_zero]
   go_enter Tryz.func133, Tryz.ntmps133
   go_wp2
   go_ret
   exact ⟨_, _, _, rfl, by rw [Hf.out]; exact OwnN.nil _ _, Below.refl _ _⟩
 · by_cases c2 : V < 0
   · obtain ⟨k, hk⟩ := Int.eq_ofNat_of_zero_le (show 0 ≤ -V by omega)
     have Hf := Lib.hid (shiftV_down (a := val xs) c2 c1 hk)
     have hlt := trim_len_le xs
     have hl := hx.len
     have hx' := IsN.take hx (m := (trim xs).length) (by omega)
     rw [← trim_take xs] at hx'
     have ex := trim_eq_limbs hx.small
     have hb : (trim xs).length ≤ 90000000 := by omega
     have hbc : (trim xs).length ≤ c := by omega
     have Hl : RowKit.Hid (val (trim xs) = val xs) := by show _ = _; rw [ex, val_limbs]
     have c3 : -8192 ≤ V := by omega
     have hk2 : k ≤ 8192 := by omega
     clear hl ex hlt c1
     go_enter Tryz.func133, Tryz.ntmps133
     go_wp2_with fail
     refine (mulCut_any A n c xs w hx hc (by omega)).mono ?_
     rintro e w1 ⟨rfl, rfl⟩
     generalize trim xs = ys at *
     go_wp2_with fail
     refine (mulDown_any A ys.length c ys k _ (by omega) w hx' hb hbc hk2).mono ?_
     rintro e w1 ⟨A1, n1, c1, rfl, how, hbe⟩
     rw [Hl.out, ← Hf.out] at how
     clear hk
     go_wp2
     go_ret
     exact ⟨_, _, _, rfl, how, hbe⟩
   · by_cases c3 : V ≤ 8192
     case' pos =>
      obtain ⟨k, hk⟩ := Int.eq_ofNat_of_zero_le (show 0 ≤ V by omega)
      have Hf := Lib.hid (shiftV_up (a := val xs) (k := k) c2 (by omega))
      have hk2 : k ≤ 8192 := by omega
      have hk3 : V = k := by omega
     case' neg =>
      obtain ⟨k, hk, hk2⟩ : ∃ k : Nat, k = 8192 ∧ k ≤ 8192 := ⟨8192, rfl, by omega⟩
      have Hf := Lib.hid (shiftV_up (a := val xs) (k := k) c2 (by omega))
      have c4 : 8192 < V := by omega
      have hk3 : (8192 : Int) = k := by omega
      clear c3
     all_goals
      have Hk := Lib.hid hk3
      have c5 : 0 ≤ V := by omega
      clear hk3 c1 c2 hk
      go_enter Tryz.func133, Tryz.ntmps133
      go_wp2_with fail
      refine (mulUp_any A n c xs k _ Hk.out w hx hm hc hk2).mono ?_
      rintro e w1 ⟨A1, n1, c1, rfl, how, hbe⟩
      rw [← Hf.out] at how
      go_wp2
      go_ret
      exact ⟨_, _, _, rfl, how, hbe⟩
end Go.Proofs.YtohokfbohdoijaaGreatDoor
