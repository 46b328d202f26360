/- Part 4 of the texts that the statements of this seat lean on: mathematics, and what functions answer, as contracts over memory; each part says its own conditions. -/
import Derived.Test.YtjikaojffgjndaaGreatDoorM3
import Derived.Laws.Rows
import Derived.Deep.RegionWith
import Derived.BigQuiet
import Derived.IntWalk
import Derived.Deep.QuietTactic
import Derived.RegionTactic
import Derived.BigRegion
import Derived.Deep.RegionHeld3
import Derived.Deep.CutRange
/- What the reference's Parse of layer 5 comes to, as a contract over memory: the number of a text of decimal digits, or that there is none. Conditions: texts that can be read. -/
namespace Go.Proofs.YtjikaojffgjndaaGreatDoor
open Go.RowKit Limb
set_option linter.unusedVariables false
def Row2 (w : World) (g : Nat) (T : TypeId) (u v : Value) : Prop := w.heap[g]? = some (.cells #[u, v] T (0, 0))
section
variable {w w' : World} {g : Nat} {T : TypeId} {u v : Value}
theorem Row2.lt (h : Row2 w g T u v) : g < w.heap.size := by
 rcases Nat.lt_or_ge g w.heap.size with hlt | hge
 · exact hlt
 · unfold Row2 at h; rw [Array.getElem?_eq_none hge] at h; cases h
theorem Row2.below (h : Row2 w g T u v) (hb : Below w.heap.size w w') : Row2 w' g T u v := (hb.block g h.lt).trans h
theorem Row2.c0 (h : Row2 w g T u v) : w.cell? ⟨g, 0, none⟩ = some u := by unfold Row2 at h; simp [World.cell?, h]
theorem Row2.c1 (h : Row2 w g T u v) : w.cell? ⟨g, 1, none⟩ = some v := by unfold Row2 at h; simp [World.cell?, h]
theorem Row2.free (h : Row2 w g T u v) (k : Nat) : w.frozen? ⟨g, k, none⟩ = false := by unfold Row2 at h; simp [World.frozen?, h]
theorem Row2.fill (h : Row2 w g T u v) (x y : Value) : ((w.setCell ⟨g, 0, none⟩ x).setCell ⟨g, 1, none⟩ y).heap[g]? = some (.cells #[x, y] T (0, 0)) := by
 unfold Row2 at h
 simp [World.setCell, Array.getElem?_modify, h]
theorem row2_new (w : World) (T : TypeId) (u v : Value) : Row2 (w.alloc (.cells #[u, v] T)) w.heap.size T u v := heap_alloc_new _ _
theorem below_fill (h : Below w.heap.size w w') (hg : w.heap.size ≤ g) (x y : Value) : Below w.heap.size w ((w'.setCell ⟨g, 0, none⟩ x).setCell ⟨g, 1, none⟩ y) :=
 (h.setCell (by exact hg) _).setCell (by exact hg) _
end
theorem got5_size : (Tryz.prog.info? 76).map (·.size) = some 2 := by kernel_rfl
theorem numOk_len {l : List Nat} (h : l.length = 0 ∨ 2000 < l.length) : numOk l = false := by
 unfold numOk
 rcases h with h | h
 · simp [h]
 · rw [decide_eq_false (by omega : ¬ l.length ≤ 2000)]; simp
theorem numOk_bad {l : List Nat} {k : Nat} (hk : k < l.length) (h : isDig (lim l k) = false) : numOk l = false := by
 have : allDig l = false := by
  rw [Bool.eq_false_iff]
  intro h2
  have h3 := List.all_eq_true.1 h2 l[k] (List.getElem_mem hk)
  have e : lim l k = l[k] := by simp [lim, List.getD_eq_getElem?_getD, List.getElem?_eq_getElem hk]
  rw [← e, h] at h3
  cases h3
 unfold numOk
 rw [this]; simp
theorem numOk_good {l : List Nat} (h1 : 1 ≤ l.length) (h2 : l.length ≤ 2000) (h3 : allDig l = true) : numOk l = true := by
 unfold numOk
 simp [h1, h2, h3]
def PInv (l : List Nat) (i t : Nat) : Prop := allDig (l.take i) = true ∧ t = decV (l.take i)
theorem PInv.start (l : List Nat) : PInv l 0 0 := ⟨rfl, rfl⟩
theorem PInv.step {l : List Nat} {i t : Nat} (h : PInv l i t) (hi : i < l.length) (hd : isDig (lim l i) = true) : PInv l (i + 1) (t * 10 + (lim l i - 48)) := by
 have e : l.take (i + 1) = l.take i ++ [lim l i] := by
  rw [List.take_succ_eq_append_getElem hi]
  simp [lim, List.getD_eq_getElem?_getD, List.getElem?_eq_getElem hi]
 refine ⟨by rw [e, allDig_append, h.1]; simp [allDig, hd], by rw [e, decV_snoc, h.2]⟩
theorem PInv.lt {l : List Nat} {i t : Nat} (h : PInv l i t) (hi : l.length ≤ 2000) : t < 4294967296 ^ 223 := by
 have h1 := decV_lt h.1
 rw [← h.2] at h1
 refine Nat.lt_of_lt_of_le h1 (dec_room ?_)
 rw [List.length_take]
 omega
def numV (l : List Nat) : Nat := if numOk l = true then decV l else 0
theorem numV_yes {l : List Nat} (h : numOk l = true) : numV l = decV l := if_pos h
theorem numV_no {l : List Nat} (h : numOk l = false) : numV l = 0 := if_neg (by rw [h]; decide)
set_option maxHeartbeats 4000000 in
set_option maxRecDepth 4000 in
theorem refParse_c (s : ByteArray) (w : World) :
 Calls Tryz.prog 47 #[.string s] w fun e w' => ∃ A1 n1 c1, e = .returned (.agg #[.slice A1 n1 c1, .bool (numOk (bytesOf s))]) ∧ NN w' A1 n1 c1 (limbs (numV (bytesOf s))) (numV (bytesOf s)) 223 ∧ Below w.heap.size w w' := by
 have HB := Lib.hid (row2_new w 76 (.slice none 0 0) (.bool false))
 have HW := Lib.hid (below_new w (.cells #[Value.slice none 0 0, Value.bool false] 76))
 have Hnn : ∀ wx : World, RowKit.Hid (numOk (bytesOf s) = false) → NN wx none 0 0 (limbs (numV (bytesOf s))) (numV (bytesOf s)) 223 := fun wx h => by
  rw [numV_no h.out, limbs_zero]; exact ⟨IsN.nil _ _, rfl, Nat.le_refl _, Nat.zero_le _⟩
 have HNN := Lib.hid Hnn
 clear Hnn
 by_cases hz : s.size < 1
 · have HO : RowKit.Hid (numOk (bytesOf s) = false) := numOk_len (.inl (by rw [length_bytesOf]; omega))
   have hc0 := HB.out.c0
   have hc1 := HB.out.c1
   have hf0 := HB.out.free 0
   have hf1 := HB.out.free 1
   go_enter Tryz.func47, Tryz.ntmps47
   go_wp2
   refine bodyPost_ret (results_cell_row rfl _ _ w.heap.size 76 #[Value.slice none 0 0, Value.bool false] (0, 0) _ rfl HB.out Tryz.underlying76 rfl got5_size) rfl ?_
   exact ⟨none, 0, 0, by rw [HO.out], HNN.out _ HO, HW.out⟩
 · by_cases hz2 : 2000 < s.size
   · have HO : RowKit.Hid (numOk (bytesOf s) = false) := numOk_len (.inr (by rw [length_bytesOf]; omega))
     have hc0 := HB.out.c0
     have hc1 := HB.out.c1
     have hf0 := HB.out.free 0
     have hf1 := HB.out.free 1
     go_enter Tryz.func47, Tryz.ntmps47
     go_wp2
     refine bodyPost_ret (results_cell_row rfl _ _ w.heap.size 76 #[Value.slice none 0 0, Value.bool false] (0, 0) _ rfl HB.out Tryz.underlying76 rfl got5_size) rfl ?_
     exact ⟨none, 0, 0, by rw [HO.out], HNN.out _ HO, HW.out⟩
   · have h1 : 1 ≤ s.size := by omega
     have h2 : s.size ≤ 2000 := by omega
     have HX : RowKit.Hid (NN (w.alloc (.cells #[Value.slice none 0 0, Value.bool false] 76)) none 0 0 (limbs 0) 0 223) := ⟨IsN.nil _ _, rfl, Nat.le_refl _, Nat.zero_le _⟩
     have HP := Lib.hid (PInv.start (bytesOf s))
     clear hz hz2
     go_enter Tryz.func47, Tryz.ntmps47
     go_wp2
     go_loopw [4, 3] (fun iv nv wr => ∃ (i t : Nat) (A2 : Option Addr) (n2 c2 : Nat), i ≤ s.size ∧ iv = .int .i64 (i : Int) ∧ nv = .slice A2 n2 c2 ∧ RowKit.Hid (PInv (bytesOf s) i t) ∧ RowKit.Hid (NN wr A2 n2 c2 (limbs t) t 223) ∧ RowKit.Hid (Row2 wr w.heap.size 76 (.slice none 0 0) (.bool false)) ∧ RowKit.Hid (Below w.heap.size w wr)) (fun iv _ _ => s.size - (intOf iv).toNat)
     case atStart => exact ⟨0, 0, none, 0, 0, Nat.zero_le _, rfl, rfl, HP, HX, HB, HW⟩
     case round =>
      clear HP HX HB HW
      obtain ⟨i, t, A2, n2, c2, hi, rfl, rfl, HP, HX, HB, HW⟩ := hrel
      by_cases hlt : i < s.size
      · obtain ⟨d, hd⟩ : ∃ d, (s[i]'hlt).toNat = d := ⟨_, rfl⟩
        have hdl : lim (bytesOf s) i = d := by rw [← byte_at s i hlt, hd]
        by_cases hdd : 48 ≤ d ∧ d ≤ 57
        · obtain ⟨hd1, hd2⟩ := hdd
          have hdig : isDig d = true := by simp [isDig, hd1, hd2]
          have Hst := Lib.hid (HP.out.step (by rw [length_bytesOf]; exact hlt) (by rw [hdl]; exact hdig))
          rw [hdl] at Hst
          have hx := HX.out
          obtain ⟨x, hxd⟩ : ∃ x, d - 48 = x := ⟨_, rfl⟩
          have hx9 : x ≤ 9 := by omega
          have edd : IntKind.u8.wrap ((d : Int) - 48) = (x : Int) := by rw [IntKind.wrap_u8]; omega
          have ew : IntKind.u32.wrap (x : Int) = (x : Int) := by rw [IntKind.wrap_u32]; omega
          rw [hxd] at Hst
          have KL : RowKit.Hid (∀ wx : World, NN (wx.alloc (.cells #[Value.int IntKind.u32 (x : Int)] 74)) (some ⟨wx.heap.size, 0, none⟩) 1 1 [x] x 1) := fun wx => by
           have h := lit_c wx [x] (by intro y hy; simp at hy; omega) 1 rfl
           have e : Limb.val [x] = x := by simp [Limb.val]
           rw [e] at h
           exact h
          have HLT := Lib.hid (PInv.lt Hst.out (by rw [length_bytesOf]; exact h2))
          clear hxd HP HX hdl hdig
          go_wp2
          go_region_with (first
           | (go_at_call 98; (with_reducible refine (refSmall_c (by first | exact hx | exact hx.below (Below.refl _ _).drew | exact hx.below (below_new _ _) | exact hx.below (below_new _ _).drew) 10 10 rfl (by decide) (by omega)).mono ?_); rintro e w2 ⟨A_x, n_x, c_x, rfl, h_x, bn_x⟩;
               have hb2 := below_two (w := wr) (by first | exact Below.refl _ _ | exact (Below.refl _ _).drew | exact below_new _ _ | exact (below_new _ _).drew) bn_x)
           | (go_at_call 97; (first | (with_reducible refine (refAdd_c (h_x.below (below_new _ _)) (KL.out _) (by omega) (by omega)).mono ?_) | (with_reducible refine (refAdd_c h_x ((KL.out _).below bn_x) (by omega) (by omega)).mono ?_) | (with_reducible refine (refAdd_c h_x (((KL.out wr).below (Below.refl _ _).drew).below bn_x) (by omega) (by omega)).mono ?_)); rintro e w3 ⟨A_y, n_y, c_y, rfl, h_y, bn_y⟩;
               have hb3 := below_two (w := wr) (by first | exact hb2 | exact below_two hb2 (below_new _ _)) bn_y))
          all_goals
           have HY := Lib.hid (h_y.relax HLT.out)
           have HB3 := Lib.hid (HB.out.below hb3)
           have HW3 := Lib.hid (below_two HW.out hb3)
           clear h_x bn_x h_y bn_y hb2 hb3 hx HB HW
           go_wp2
           go_roundw
           case rel => exact ⟨i + 1, t * 10 + x, A_y, n_y, c_y, by omega, by go_num, rfl, Hst, HY, HB3, HW3⟩
           case measure => simp [intOf]; omega
        · have HO : RowKit.Hid (numOk (bytesOf s) = false) := numOk_bad (k := i) (by rw [length_bytesOf]; exact hlt) (by
           rw [hdl]; unfold isDig
           rcases (show d < 48 ∨ 57 < d by omega) with h | h
           · simp [show ¬ 48 ≤ d by omega]
           · simp [show ¬ d ≤ 57 by omega])
          have hc0 := HB.out.c0
          have hc1 := HB.out.c1
          have hf0 := HB.out.free 0
          have hf1 := HB.out.free 1
          rcases (show d < 48 ∨ (48 ≤ d ∧ 57 < d) by omega) with h | ⟨h, h'⟩
          all_goals
           clear hdd hdl
           go_wp2
           refine bodyPost_ret (results_cell_row rfl _ _ w.heap.size 76 #[Value.slice none 0 0, Value.bool false] (0, 0) _ rfl (HB.out.fill _ _) Tryz.underlying76 rfl got5_size) rfl ?_
           exact ⟨none, 0, 0, by rw [HO.out], HNN.out _ HO, below_fill HW.out (Nat.le_refl _) _ _⟩
      · obtain rfl : i = s.size := by omega
        have hall := HP.out
        unfold PInv at hall
        rw [← length_bytesOf, List.take_length] at hall
        have HO : RowKit.Hid (numOk (bytesOf s) = true) := numOk_good (by rw [length_bytesOf]; exact h1) (by rw [length_bytesOf]; exact h2) hall.1
        have HV : RowKit.Hid (numV (bytesOf s) = t) := by show _ = _; rw [numV_yes HO.out, ← hall.2]
        have hx := HX.out
        clear hall HP HX
        go_wp2_with fail
        refine (refTrim_o hx (by decide)).mono ?_
        rintro e w2 ⟨A3, n3, c3, rfl, how, bn⟩
        have HB2 := Lib.hid (HB.out.below bn)
        have HW2 := Lib.hid (below_two HW.out bn)
        have Hg := Lib.hid HB.out.lt
        have HN : RowKit.Hid (NN w2 A3 n3 c3 (limbs t) t 223) := NN.own how (lt_pow hx)
        have HA := Lib.hid (Apart.own how Hg.out)
        have hc0 := HB2.out.c0
        have hc1 := HB2.out.c1
        have hf0 := HB2.out.free 0
        have hf1 := HB2.out.free 1
        clear how bn hx HB HW
        go_wp2
        refine bodyPost_ret (results_cell_row rfl _ _ w.heap.size 76 #[Value.slice A3 n3 c3, Value.bool true] (0, 0) _ rfl (HB2.out.fill _ _) Tryz.underlying76 rfl got5_size) rfl ?_
        exact ⟨A3, n3, c3, by rw [HO.out], by rw [HV.out]; exact (HN.out.elsewhere HA.out _ _).elsewhere HA.out _ _, below_fill HW2.out (Nat.le_refl _) _ _⟩
end Go.Proofs.YtjikaojffgjndaaGreatDoor

/- Whole numbers with a sign in memory: a struct of a sign and a list of limbs that reads as an Int; answers are in the shortest limbs, and 0 is not below 0. Texts of whole numbers. No condition. -/
namespace Go.Proofs.YtjikaojffgjndaaGreatDoor
open Go.RowKit Limb
set_option linter.unusedVariables false
def sg (z : Int) : Bool := decide (z < 0)
theorem sg_neg {z : Int} (h : z < 0) : sg z = true := by simp [sg, h]
theorem sg_pos {z : Int} (h : 0 ≤ z) : sg z = false := by simp [sg]; omega
structure ZZ (w : World) (s : Bool) (A : Option Addr) (n c : Nat) (xs : List Nat) (z : Int) (L : Nat) : Prop where
 nn : NN w A n c xs z.natAbs L
 sgn : z = if s = true then -(z.natAbs : Int) else (z.natAbs : Int)
def zOf (s : Bool) (a : Nat) : Int := if s = true then -(a : Int) else (a : Int)
theorem zOf_abs (s : Bool) (a : Nat) : (zOf s a).natAbs = a := by unfold zOf; split <;> omega
theorem ZZ.of {w : World} {s : Bool} {A : Option Addr} {n c : Nat} {xs : List Nat} {a L : Nat} (h : NN w A n c xs a L) : ZZ w s A n c xs (zOf s a) L := by
 refine ⟨by rw [zOf_abs]; exact h, ?_⟩
 rw [zOf_abs]; rfl
theorem ZZ.below {w w' : World} {s : Bool} {A : Option Addr} {n c : Nat} {xs : List Nat} {z : Int} {L : Nat} (h : ZZ w s A n c xs z L) (hb : Below w.heap.size w w') : ZZ w' s A n c xs z L := ⟨h.nn.below hb, h.sgn⟩
theorem ZZ.neg {w : World} {A : Option Addr} {n c : Nat} {xs : List Nat} {z : Int} {L : Nat} (h : ZZ w true A n c xs z L) : z = -(z.natAbs : Int) := h.sgn
theorem ZZ.pos {w : World} {A : Option Addr} {n c : Nat} {xs : List Nat} {z : Int} {L : Nat} (h : ZZ w false A n c xs z L) : z = (z.natAbs : Int) := h.sgn
theorem ZZ.mk' {w : World} {A : Option Addr} {n c : Nat} {z : Int} {L : Nat} (h : NN w A n c (limbs z.natAbs) z.natAbs L) : ZZ w (sg z) A n c (limbs z.natAbs) z L := by
 refine ⟨h, ?_⟩
 unfold sg
 by_cases h0 : z < 0
 · simp [h0]; omega
 · simp [h0]; omega
def zT (z : Int) : List Nat := if z < 0 then 45 :: decT z.natAbs else decT z.natAbs
theorem zT_neg {z : Int} (h : z < 0) : zT z = 45 :: decT z.natAbs := if_pos h
theorem zT_pos {z : Int} (h : 0 ≤ z) : zT z = decT z.natAbs := if_neg (by omega)
theorem zT_bytes (z : Int) : Bytes (zT z) := by
 unfold zT; split
 · exact bytes_cons.2 ⟨by decide, decT_bytes _⟩
 · exact decT_bytes _
theorem minus_text (l : List Nat) : (⟨#[45]⟩ : ByteArray) ++ strOf l = strOf (45 :: l) := by
 have e : (⟨#[45]⟩ : ByteArray) = strOf [45] := rfl
 rw [e, strOf_append]; rfl
def zOk (l : List Nat) : Bool := if l.head? = some 45 then numOk l.tail && decide (numV l.tail ≠ 0) else numOk l
def zV (l : List Nat) : Int := if l.head? = some 45 then -(numV l.tail : Int) else (numV l : Int)
theorem zOk_minus {l : List Nat} (h : l.head? = some 45) : zOk l = (numOk l.tail && decide (numV l.tail ≠ 0)) := if_pos h
theorem zOk_plain {l : List Nat} (h : l.head? ≠ some 45) : zOk l = numOk l := if_neg h
theorem zV_minus {l : List Nat} (h : l.head? = some 45) : zV l = -(numV l.tail : Int) := if_pos h
theorem zV_plain {l : List Nat} (h : l.head? ≠ some 45) : zV l = (numV l : Int) := if_neg h
theorem numV_dec {n : Nat} (h : (decT n).length ≤ 2000) : numV (decT n) = n := by rw [numV_yes (numOk_dec h), decV_decT]
theorem dec_head (n : Nat) : (decT n).head? ≠ some 45 := by
 intro h
 cases hd : decT n with
 | nil => exact absurd hd (decT_ne n)
 | cons x l =>
  rw [hd] at h
  simp at h
  have := allDig_iff.1 (decT_dig n) x (by rw [hd]; simp)
  omega
theorem zOk_T {z : Int} (h : (decT z.natAbs).length ≤ 2000) : zOk (zT z) = true := by
 by_cases h0 : z < 0
 · rw [zT_neg h0, zOk_minus rfl]
   show (numOk (decT z.natAbs) && decide (numV (decT z.natAbs) ≠ 0)) = true
   rw [numOk_dec h, numV_dec h]
   simp; omega
 · rw [zT_pos (by omega), zOk_plain (dec_head _), numOk_dec h]
theorem zV_T {z : Int} (h : (decT z.natAbs).length ≤ 2000) : zV (zT z) = z := by
 by_cases h0 : z < 0
 · rw [zT_neg h0, zV_minus rfl]
   show -(numV (decT z.natAbs) : Int) = z
   rw [numV_dec h]; omega
 · rw [zT_pos (by omega), zV_plain (dec_head _), numV_dec h]; omega
theorem zT_inj {x y : Int} (h : zT x = zT y) : x = y := by
 by_cases hx : x < 0
 · by_cases hy : y < 0
   · rw [zT_neg hx, zT_neg hy] at h
     have := decT_inj (List.cons.inj h).2
     omega
   · rw [zT_neg hx, zT_pos (by omega)] at h
     exact absurd (by rw [← h]; rfl) (dec_head y.natAbs)
 · by_cases hy : y < 0
   · rw [zT_pos (by omega), zT_neg hy] at h
     exact absurd (by rw [h]; rfl) (dec_head x.natAbs)
   · rw [zT_pos (by omega), zT_pos (by omega)] at h
     have := decT_inj h
     omega
def cmpZ (x y : Int) : Int := if x < y then -1 else if x = y then 0 else 1
theorem cmpZ_lt {x y : Int} (h : x < y) : cmpZ x y = -1 := if_pos h
theorem cmpZ_eq {x y : Int} (h : x = y) : cmpZ x y = 0 := by unfold cmpZ; rw [if_neg (by omega), if_pos h]
theorem cmpZ_gt {x y : Int} (h : y < x) : cmpZ x y = 1 := by unfold cmpZ; rw [if_neg (by omega), if_neg (by omega)]
theorem cmpZ_bounds (x y : Int) : -1 ≤ cmpZ x y ∧ cmpZ x y ≤ 1 := by unfold cmpZ; split <;> (try split) <;> omega
theorem abs_add_lt {x y : Int} {K : Nat} (hx : x.natAbs < 4294967296 ^ K) (hy : y.natAbs < 4294967296 ^ K) : (x + y).natAbs < 4294967296 ^ (K + 1) := by
 rw [Nat.pow_succ]; omega
end Go.Proofs.YtjikaojffgjndaaGreatDoor

/- Mathematics of the order of whole numbers; a number's text and back. No condition. -/
namespace Go.Proofs.YtjikaojffgjndaaGreatDoor
open Go.RowKit Limb
end Go.Proofs.YtjikaojffgjndaaGreatDoor

/- Mathematics of rational numbers as they are told: Lean's own Rat, its top and its bottom; what may be; the limit of 64 limbs; none is told as 0 and nothing. No condition. -/
namespace Go.Proofs.YtjikaojffgjndaaGreatDoor
open Go.RowKit Limb
set_option linter.unusedVariables false
def fitsQ (q : Rat) : Bool := decide (q.num.natAbs < 4294967296 ^ 64) && decide (q.den < 4294967296 ^ 64)
def limQ (q : Rat) : Option Rat := if fitsQ q = true then some q else none
def limE (q : Rat) : Int := if fitsQ q = true then 0 else 2
def oTop : Option Rat → Int
 | some q => q.num
 | none => 0
def oBot : Option Rat → Nat
 | some q => q.den
 | none => 0
theorem limQ_yes {q : Rat} (h : fitsQ q = true) : limQ q = some q := if_pos h
theorem limQ_no {q : Rat} (h : fitsQ q = false) : limQ q = none := if_neg (by rw [h]; decide)
theorem limE_yes {q : Rat} (h : fitsQ q = true) : limE q = 0 := if_pos h
theorem limE_no {q : Rat} (h : fitsQ q = false) : limE q = 2 := if_neg (by rw [h]; decide)
theorem mk_num {x : Int} {b : Nat} (hb : b ≠ 0) : (mkRat x b).num.natAbs = x.natAbs / Nat.gcd x.natAbs b ∧ sg (mkRat x b).num = sg x := by
 rw [Rat.num_mkRat, if_neg hb, Nat.gcd_comm]
 have hd : ((Nat.gcd x.natAbs b : Nat) : Int) ∣ x := by
  rw [Int.ofNat_dvd_left]; exact Nat.gcd_dvd_left _ _
 have hg : 0 < Nat.gcd x.natAbs b := Nat.gcd_pos_of_pos_right _ (Nat.pos_of_ne_zero hb)
 refine ⟨by rw [Int.natAbs_ediv_of_dvd hd]; rfl, ?_⟩
 obtain ⟨k, hk⟩ := hd
 generalize Nat.gcd x.natAbs b = g at hk hg ⊢
 subst hk
 rw [Int.mul_ediv_cancel_left _ (by omega)]
 unfold sg
 rw [decide_eq_decide]
 have h2 : (0 : Int) < (g : Int) := by omega
 constructor
 · intro h; exact Int.mul_neg_of_pos_of_neg h2 h
 · intro h
   rcases Int.lt_trichotomy k 0 with h3 | h3 | h3
   · exact h3
   · subst h3; simp at h
   · have := Int.mul_pos h2 h3; omega
theorem mk_den {x : Int} {b : Nat} (hb : b ≠ 0) : (mkRat x b).den = b / Nat.gcd x.natAbs b := by
 rw [Rat.den_mkRat, if_neg hb, Nat.gcd_comm]
theorem zOf_sg {z : Int} : zOf (sg z) z.natAbs = z := by
 unfold zOf sg
 by_cases h : z < 0
 · simp [h]; omega
 · simp [h]; omega
def goodV (s : Bool) (xs ys : List Nat) : Bool :=
 decide (xs = limbs (Limb.val xs)) && decide (ys = limbs (Limb.val ys)) && decide (Limb.val ys ≠ 0) && !(s && decide (Limb.val xs = 0)) && decide (xs.length ≤ 64) && decide (ys.length ≤ 64) && decide (Nat.gcd (Limb.val xs) (Limb.val ys) = 1)
theorem goodV_iff {s : Bool} {xs ys : List Nat} : goodV s xs ys = true ↔ xs = limbs (Limb.val xs) ∧ ys = limbs (Limb.val ys) ∧ Limb.val ys ≠ 0 ∧ ¬ (s = true ∧ Limb.val xs = 0) ∧ xs.length ≤ 64 ∧ ys.length ≤ 64 ∧ Nat.gcd (Limb.val xs) (Limb.val ys) = 1 := by
 unfold goodV
 simp only [Bool.and_eq_true, decide_eq_true_eq, Bool.not_eq_true', Bool.and_eq_false_iff, decide_eq_false_iff_not]
 constructor
 · rintro ⟨⟨⟨⟨⟨⟨h1, h2⟩, h3⟩, h4⟩, h5⟩, h6⟩, h7⟩
   exact ⟨h1, h2, h3, fun ⟨a, b⟩ => by rcases h4 with h4 | h4; · rw [a] at h4; cases h4
                                       · exact h4 b, h5, h6, h7⟩
 · rintro ⟨h1, h2, h3, h4, h5, h6, h7⟩
   refine ⟨⟨⟨⟨⟨⟨h1, h2⟩, h3⟩, ?_⟩, h5⟩, h6⟩, h7⟩
   cases s with
   | false => exact .inl rfl
   | true => exact .inr fun h => h4 ⟨rfl, h⟩
def readQ (s : Bool) (xs ys : List Nat) : Option Rat := if goodV s xs ys = true then some (mkRat (zOf s (Limb.val xs)) (Limb.val ys)) else none
theorem readQ_no {s : Bool} {xs ys : List Nat} (h : goodV s xs ys = false) : readQ s xs ys = none := if_neg (by rw [h]; decide)
theorem readQ_yes {s : Bool} {xs ys : List Nat} (h : goodV s xs ys = true) : ∃ q : Rat, readQ s xs ys = some q ∧ s = sg q.num ∧ xs = limbs q.num.natAbs ∧ ys = limbs q.den ∧ fitsQ q = true ∧ q.num = zOf s (Limb.val xs) ∧ q.den = Limb.val ys := by
 obtain ⟨h1, h2, h3, h4, h5, h6, h7⟩ := goodV_iff.1 h
 have ha : (zOf s (Limb.val xs)).natAbs = Limb.val xs := zOf_abs _ _
 obtain ⟨n1, n2⟩ := mk_num (x := zOf s (Limb.val xs)) h3
 have d1 := mk_den (x := zOf s (Limb.val xs)) h3
 rw [ha, h7, Nat.div_one] at n1 d1
 have hs : sg (zOf s (Limb.val xs)) = s := by
  cases s with
  | false => apply sg_pos; unfold zOf; simp
  | true =>
   have : Limb.val xs ≠ 0 := fun e => h4 ⟨rfl, e⟩
   apply sg_neg; unfold zOf; rw [if_pos rfl]; omega
 have hn : (mkRat (zOf s (Limb.val xs)) (Limb.val ys)).num = zOf s (Limb.val xs) := by
  have e1 := zOf_sg (z := (mkRat (zOf s (Limb.val xs)) (Limb.val ys)).num)
  rw [n1, n2, hs] at e1
  exact e1.symm
 refine ⟨_, if_pos h, ?_, ?_, ?_, ?_, hn, d1⟩
 · rw [n2, hs]
 · rw [n1]; exact h1
 · rw [d1]; exact h2
 · simp only [fitsQ, Bool.and_eq_true, decide_eq_true_eq]
   rw [n1, d1]
   have l1 := val_lt (xs := xs) (by rw [h1]; exact small_limbs _)
   have l2 := val_lt (xs := ys) (by rw [h2]; exact small_limbs _)
   exact ⟨Nat.lt_of_lt_of_le l1 (Nat.pow_le_pow_right (by decide) h5), Nat.lt_of_lt_of_le l2 (Nat.pow_le_pow_right (by decide) h6)⟩
theorem goodV_told {q : Rat} (h : fitsQ q = true) : goodV (sg q.num) (limbs q.num.natAbs) (limbs q.den) = true := by
 simp only [fitsQ, Bool.and_eq_true, decide_eq_true_eq] at h
 rw [goodV_iff, val_limbs, val_limbs]
 refine ⟨rfl, rfl, q.den_nz, ?_, length_limbs_le h.1, length_limbs_le h.2, q.reduced⟩
 rintro ⟨h1, h2⟩
 unfold sg at h1
 rw [decide_eq_true_eq] at h1
 omega
theorem readQ_told {q : Rat} (h : fitsQ q = true) : readQ (sg q.num) (limbs q.num.natAbs) (limbs q.den) = some q := by
 unfold readQ
 rw [if_pos (goodV_told h), val_limbs, val_limbs, zOf_sg, Rat.mkRat_self]
theorem goodV_none : goodV false (limbs (oTop none).natAbs) (limbs (oBot none)) = false := by decide +kernel
theorem add_mk (p q : Rat) : p + q = mkRat (p.num * (q.den : Int) + q.num * (p.den : Int)) (p.den * q.den) := by
 rw [Rat.add_def, Rat.normalize_eq_mkRat]
theorem mul_mk (p q : Rat) : p * q = mkRat (p.num * q.num) (p.den * q.den) := by
 rw [Rat.mul_def, Rat.normalize_eq_mkRat]
theorem neg_top (q : Rat) : (-q).num = -q.num ∧ (-q).den = q.den := ⟨rfl, rfl⟩
theorem div_mk {p q : Rat} (h : q.num ≠ 0) : p / q = mkRat (p.num * zOf (sg q.num) q.den) (p.den * q.num.natAbs) := by
 have hq : q ≠ 0 := fun e => h (by rw [e]; rfl)
 have e1 : mkRat (p.num * zOf (sg q.num) q.den) (p.den * q.num.natAbs) = p * mkRat (zOf (sg q.num) q.den) q.num.natAbs := by
  rw [← Rat.mkRat_mul_mkRat, Rat.mkRat_self]
 rw [e1, Rat.div_def]
 congr 1
 rw [Rat.inv_def]
 rcases Int.lt_trichotomy q.num 0 with h1 | h1 | h1
 · rw [sg_neg h1]
   obtain ⟨n, hn⟩ : ∃ n : Nat, q.num = -((n : Int) + 1) := ⟨(-(q.num) - 1).toNat, by omega⟩
   rw [hn]
   have e2 : (-((n : Int) + 1)).natAbs = n + 1 := by omega
   rw [e2]
   unfold zOf
   rw [if_pos rfl, show (-((n : Int) + 1)) = Int.negSucc n by omega]
   exact Rat.normalize_eq_mkRat (Nat.succ_ne_zero n)
 · exact absurd h1 h
 · rw [sg_pos (by omega)]
   obtain ⟨n, hn⟩ : ∃ n : Nat, q.num = (n : Int) := ⟨q.num.toNat, by omega⟩
   rw [hn]
   unfold zOf
   rw [if_neg (by decide), Int.natAbs_natCast]
   rfl
def cmpQ (p q : Rat) : Int := cmpZ (p.num * (q.den : Int)) (q.num * (p.den : Int))
end Go.Proofs.YtjikaojffgjndaaGreatDoor

/- What the reference's Pow of layer 2 comes to, as a contract over memory: the power bit by bit, and whether there is one. Conditions: the list reads as limbs, of at most 10^5 of them. -/
namespace Go.Proofs.YtjikaojffgjndaaGreatDoor
open Go.RowKit Limb
set_option linter.unusedVariables false
end Go.Proofs.YtjikaojffgjndaaGreatDoor

/- What the statements' helpers keep.Int and keep.OwnInt, and the reference of layer 6, answer, as contracts over memory. Conditions: sizes of at most so many limbs. -/
namespace Go.Proofs.YtjikaojffgjndaaGreatDoor
open Go.RowKit Limb
set_option linter.unusedVariables false
theorem zsame {x y : Int} (h : x = y) : (decide (sg x = sg y) && same (limbs x.natAbs) (limbs y.natAbs)) = true := by
 subst h; rw [same_self]; simp
theorem int_size : (Tryz.prog.info? 25).map (·.size) = some 2 := by kernel_rfl
theorem NN.put2 {w : World} {A : Option Addr} {n c : Nat} {xs : List Nat} {a L g : Nat} {T : TypeId} {b0 : Bool} {A0 : Option Addr} {n0 c0 : Nat} (h : NN w A n c xs a L) (hb : Row2 w g T (.bool b0) (.slice A0 n0 c0)) (u v : Value) : NN ((w.setCell ⟨g, 0, none⟩ u).setCell ⟨g, 1, none⟩ v) A n c xs a L := by
 refine ⟨⟨h.isN.1, h.isN.2.1, fun hn => ?_⟩, h.val, h.cap, h.le⟩
 obtain ⟨b, o, e, hlt, hc⟩ := h.isN.2.2 hn
 have hbg : b ≠ g := by
  rintro rfl
  have h1 := hc 0 hn
  unfold Row2 at hb
  match o, h1 with
  | 0, h1 => simp [World.cell?, hb] at h1
  | 1, h1 => simp [World.cell?, hb] at h1
  | o + 2, h1 => simp [World.cell?, hb] at h1
 refine ⟨b, o, e, by simpa [World.setCell] using hlt, fun j hj => ?_⟩
 rw [cell_setCell_ne _ _ (by intro e; injection e with e; exact hbg e.symm), cell_setCell_ne _ _ (by intro e; injection e with e; exact hbg e.symm)]
 exact hc j hj
section
variable {w : World} {s s' : Bool} {A A' : Option Addr} {n c n' c' : Nat} {xs ys : List Nat} {x y : Int} {L L' : Nat}
theorem keepInt_c (hx : ZZ w s A n c xs x L) (hy : ZZ w s' A' n' c' ys y L') (h1 : L ≤ 1000000000) (h2 : L' ≤ 1000000000) (v : Bool) (hv : (decide (s = s') && same xs ys) = v) :
 Calls Tryz.prog 25 #[.agg #[.bool s, .slice A n c], .agg #[.bool s', .slice A' n' c']] w fun e w' => e = .returned (.bool v) ∧ Below w.heap.size w w' := by
 have Hx := Lib.hid hx.nn
 have Hy := Lib.hid hy.nn
 have Hv := Lib.hid hv
 have HW : RowKit.Hid (Below w.heap.size w ((w.alloc (.cells #[Value.bool s, Value.slice A n c] 25)).alloc (.cells #[Value.bool s', Value.slice A' n' c'] 25))) := below_two (below_new _ _) (below_new _ _)
 clear hx hy hv
 by_cases hs : s = s'
 · subst hs
   go_enter Tryz.func25, Tryz.ntmps25
   go_wp2_with fail
   refine (keep_c (Hx.out.below HW.out) (Hy.out.below HW.out) h1 h2 v (by have := Hv.out; simpa using this)).mono ?_
   rintro e w1 ⟨rfl, bn⟩
   have HW1 := Lib.hid (below_two HW.out bn)
   clear bn HW
   go_wp2
   go_ret
   exact ⟨rfl, HW1.out⟩
 · go_enter Tryz.func25, Tryz.ntmps25
   have hs2 : (s == s') = false := by simpa using hs
   have Hv2 : RowKit.Hid (v = false) := by show _ = _; rw [← Hv.out]; simp [hs]
   clear hs Hv
   go_wp2
   go_ret
   exact ⟨by rw [Hv2.out]; rfl, HW.out⟩
theorem ownInt_c (hx : ZZ w s A n c xs x L) (h1 : L ≤ 1000000000) :
 Calls Tryz.prog 41 #[.agg #[.bool s, .slice A n c]] w fun e w' => ∃ A2 n2 c2, e = .returned (.agg #[.bool s, .slice A2 n2 c2]) ∧ ZZ w' s A2 n2 c2 xs x L ∧ Below w.heap.size w w' := by
 have b1 := below_new w (.cells #[Value.bool s, Value.slice A n c] 25)
 have b2 := below_new (w.alloc (.cells #[Value.bool s, Value.slice A n c] 25)) (.cells #[Value.bool false, Value.slice none 0 0] 25)
 have HW := Lib.hid (below_two b1 b2)
 have HN := Lib.hid (hx.nn.below HW.out)
 have HS := Lib.hid hx.sgn
 have r1 := (row2_new w 25 (.bool s) (.slice A n c)).below b2
 have r2 := row2_new (w.alloc (.cells #[Value.bool s, Value.slice A n c] 25)) 25 (.bool false) (.slice none 0 0)
 rw [World.size_alloc] at r2
 clear b1 b2 hx
 go_enter Tryz.func41, Tryz.ntmps41
 go_wp2
 generalize (w.alloc (.cells #[Value.bool s, Value.slice A n c] 25)).alloc (.cells #[Value.bool false, Value.slice none 0 0] 25) = w1 at *
 have HR1 := Lib.hid r1
 have HR2 := Lib.hid r2
 have c0 := r1.c0
 have c1 := r1.c1
 clear r1 r2
 go_region_with (go_at_call 42; (with_reducible refine (own_any _ _ _ _ _ _ _ (by first | exact HN.out | exact HN.out.below (Below.refl _ _).drew) h1).mono ?_); rintro e w2 ⟨A2, n2, c2, rfl, h2, bn⟩; have bn1 : Below w1.heap.size w1 w2 := (by first | exact bn | exact below_two (Below.refl _ _).drew bn); have d0 := (HR1.out.below bn1).c0; have d1 := (HR1.out.below bn1).c1; have e0 := (HR2.out.below bn1).c0; have e1 := (HR2.out.below bn1).c1; have f0 := (HR2.out.below bn1).free 0; have f1 := (HR2.out.below bn1).free 1)
 all_goals
  have HR := HR2.out.below bn1
  have HZ := Lib.hid (h2.put2 HR (.bool s) (.slice A2 n2 c2))
  have HB := Lib.hid (below_fill (below_two HW.out bn1) (Nat.le_succ _) (.bool s) (.slice A2 n2 c2))
  have HF := Lib.hid (HR.fill (.bool s) (.slice A2 n2 c2))
  clear d0 d1 e0 e1 f0 f1 bn bn1 HR h2 c0 c1
  go_wp2
  refine bodyPost_ret (results_cell_row rfl _ _ (w.heap.size + 1) 25 #[.bool s, .slice A2 n2 c2] (0, 0) _ rfl HF.out Tryz.underlying25 rfl int_size) rfl ?_
  exact ⟨A2, n2, c2, rfl, ⟨HZ.out, HS.out⟩, HB.out⟩
end
end Go.Proofs.YtjikaojffgjndaaGreatDoor

/- Mathematics of the order of rational numbers and of how many limbs sums and products have. No condition. -/
namespace Go.Proofs.YtjikaojffgjndaaGreatDoor
open Go.RowKit Limb
set_option linter.unusedVariables false
theorem cmpQ_lt {p q : Rat} (h : p < q) : cmpQ p q = -1 := cmpZ_lt (Rat.lt_iff p q |>.1 h)
theorem cmpQ_eq {p q : Rat} (h : p = q) : cmpQ p q = 0 := by subst h; exact cmpZ_eq rfl
theorem cmpQ_gt {p q : Rat} (h : q < p) : cmpQ p q = 1 := cmpZ_gt (Rat.lt_iff q p |>.1 h)
theorem rat_tri (p q : Rat) : p < q ∨ p = q ∨ q < p := by
 by_cases h : p < q
 · exact .inl h
 · rcases Rat.le_iff_lt_or_eq.1 (Rat.not_lt.1 h) with h2 | h2
   · exact .inr (.inr h2)
   · exact .inr (.inl h2.symm)
theorem cmpQ_bounds (p q : Rat) : -1 ≤ cmpQ p q ∧ cmpQ p q ≤ 1 := cmpZ_bounds _ _
theorem cmpQ_neg (p q : Rat) : cmpQ (-p) (-q) = -cmpQ p q := by
 rcases rat_tri p q with h | h | h
 · rw [cmpQ_lt h, cmpQ_gt (Rat.neg_lt_neg_iff.2 h)]; rfl
 · subst h; rw [cmpQ_eq rfl, cmpQ_eq rfl]; rfl
 · rw [cmpQ_gt h, cmpQ_lt (Rat.neg_lt_neg_iff.2 h)]
theorem cmpQ_mul (p q r : Rat) : cmpQ (p * r) (q * r) = cmpQ p q * cmpQ r 0 := by
 rcases rat_tri r 0 with hr | hr | hr
 · have e : ∀ x : Rat, x * r = -(x * -r) := fun x => by rw [Rat.mul_neg, Rat.neg_neg]
   rw [e p, e q, cmpQ_neg, cmpQ_lt hr]
   have hr2 : 0 < -r := by rw [← Rat.neg_zero]; exact Rat.neg_lt_neg_iff.2 hr
   rcases rat_tri p q with h | h | h
   · rw [cmpQ_lt h, cmpQ_lt (Rat.mul_lt_mul_of_pos_right h hr2)]; rfl
   · subst h; rw [cmpQ_eq rfl, cmpQ_eq rfl]; rfl
   · rw [cmpQ_gt h, cmpQ_gt (Rat.mul_lt_mul_of_pos_right h hr2)]; rfl
 · subst hr; rw [Rat.mul_zero, Rat.mul_zero, cmpQ_eq rfl, Int.mul_zero]
 · rw [cmpQ_gt hr, Int.mul_one]
   rcases rat_tri p q with h | h | h
   · rw [cmpQ_lt h, cmpQ_lt (Rat.mul_lt_mul_of_pos_right h hr)]
   · subst h; rw [cmpQ_eq rfl, cmpQ_eq rfl]
   · rw [cmpQ_gt h, cmpQ_gt (Rat.mul_lt_mul_of_pos_right h hr)]
theorem cmpQ_top (q : Rat) : cmpQ q 0 = cmpZ q.num 0 := by
 show cmpZ (q.num * ((0 : Rat).den : Int)) ((0 : Rat).num * (q.den : Int)) = _
 have e1 : (0 : Rat).den = 1 := rfl
 have e2 : (0 : Rat).num = 0 := rfl
 rw [e1, e2]
 simp
def Bd (q : Rat) (k l : Nat) : Prop := q.num.natAbs < 4294967296 ^ k ∧ q.den < 4294967296 ^ l
theorem Bd.mono {q : Rat} {k l k' l' : Nat} (h : Bd q k l) (hk : k ≤ k') (hl : l ≤ l') : Bd q k' l' :=
 ⟨Nat.lt_of_lt_of_le h.1 (Nat.pow_le_pow_right (by decide) hk), Nat.lt_of_lt_of_le h.2 (Nat.pow_le_pow_right (by decide) hl)⟩
theorem Bd.fits {q : Rat} {k l : Nat} (h : Bd q k l) (hk : k ≤ 64) (hl : l ≤ 64) : fitsQ q = true := by
 have h2 := h.mono hk hl
 unfold fitsQ
 rw [decide_eq_true h2.1, decide_eq_true h2.2]; rfl
theorem bd_mk {x : Int} {b k l : Nat} (hb : b ≠ 0) (hx : x.natAbs < 4294967296 ^ k) (hl : b < 4294967296 ^ l) : Bd (mkRat x b) k l := by
 refine ⟨?_, ?_⟩
 · rw [(mk_num hb).1]; exact Nat.lt_of_le_of_lt (Nat.div_le_self _ _) hx
 · rw [mk_den hb]; exact Nat.lt_of_le_of_lt (Nat.div_le_self _ _) hl
theorem Bd.mul {p q : Rat} {a b c d : Nat} (h : Bd p a b) (k : Bd q c d) : Bd (p * q) (a + c) (b + d) := by
 rw [mul_mk]
 refine bd_mk (Nat.mul_ne_zero p.den_nz q.den_nz) ?_ ?_
 · rw [Int.natAbs_mul, Nat.pow_add]; exact Nat.mul_lt_mul'' h.1 k.1
 · rw [Nat.pow_add]; exact Nat.mul_lt_mul'' h.2 k.2
theorem Bd.add {p q : Rat} {a b c d e : Nat} (h : Bd p a b) (k : Bd q c d) (h1 : a + d ≤ e) (h2 : c + b ≤ e) : Bd (p + q) (e + 1) (b + d) := by
 rw [add_mk]
 refine bd_mk (Nat.mul_ne_zero p.den_nz q.den_nz) ?_ ?_
 · have l1 : (p.num * (q.den : Int)).natAbs < 4294967296 ^ e := by
    rw [Int.natAbs_mul, Int.natAbs_natCast]
    have := Nat.mul_lt_mul'' h.1 k.2
    rw [← Nat.pow_add] at this
    exact Nat.lt_of_lt_of_le this (Nat.pow_le_pow_right (by decide) h1)
   have l2 : (q.num * (p.den : Int)).natAbs < 4294967296 ^ e := by
    rw [Int.natAbs_mul, Int.natAbs_natCast]
    have := Nat.mul_lt_mul'' k.1 h.2
    rw [← Nat.pow_add] at this
    exact Nat.lt_of_lt_of_le this (Nat.pow_le_pow_right (by decide) h2)
   exact abs_add_lt l1 l2
 · rw [Nat.pow_add]; exact Nat.mul_lt_mul'' h.2 k.2
theorem Bd.neg {q : Rat} {k l : Nat} (h : Bd q k l) : Bd (-q) k l := ⟨by rw [(neg_top q).1, Int.natAbs_neg]; exact h.1, h.2⟩
end Go.Proofs.YtjikaojffgjndaaGreatDoor

/- Blocks of three and of four cells: what they hold, what stays where they are filled. No condition. -/
namespace Go.Proofs.YtjikaojffgjndaaGreatDoor
open Go.RowKit Limb
set_option linter.unusedVariables false
def Row3 (w : World) (g : Nat) (T : TypeId) (a b c : Value) : Prop := w.heap[g]? = some (.cells #[a, b, c] T (0, 0))
section
variable {w w' : World} {g : Nat} {T : TypeId} {a b c : Value}
theorem Row3.lt (h : Row3 w g T a b c) : g < w.heap.size := by
 rcases Nat.lt_or_ge g w.heap.size with hlt | hge
 · exact hlt
 · unfold Row3 at h; rw [Array.getElem?_eq_none hge] at h; cases h
theorem Row3.below (h : Row3 w g T a b c) (hb : Below w.heap.size w w') : Row3 w' g T a b c := (hb.block g h.lt).trans h
theorem Row3.c0 (h : Row3 w g T a b c) : w.cell? ⟨g, 0, none⟩ = some a := by unfold Row3 at h; simp [World.cell?, h]
theorem Row3.c1 (h : Row3 w g T a b c) : w.cell? ⟨g, 1, none⟩ = some b := by unfold Row3 at h; simp [World.cell?, h]
theorem Row3.c2 (h : Row3 w g T a b c) : w.cell? ⟨g, 2, none⟩ = some c := by unfold Row3 at h; simp [World.cell?, h]
theorem Row3.free (h : Row3 w g T a b c) (k : Nat) : w.frozen? ⟨g, k, none⟩ = false := by unfold Row3 at h; simp [World.frozen?, h]
theorem Row3.fill (h : Row3 w g T a b c) (x y z : Value) : Row3 (((w.setCell ⟨g, 0, none⟩ x).setCell ⟨g, 1, none⟩ y).setCell ⟨g, 2, none⟩ z) g T x y z := by
 unfold Row3 at h ⊢
 simp [World.setCell, Array.getElem?_modify, h]
theorem row3_new (w : World) (T : TypeId) (a b c : Value) : Row3 (w.alloc (.cells #[a, b, c] T)) w.heap.size T a b c := heap_alloc_new _ _
theorem below_fill3' (h : Below w.heap.size w w') (hg : w.heap.size ≤ g) (x y z : Value) : Below w.heap.size w (((w'.setCell ⟨g, 0, none⟩ x).setCell ⟨g, 1, none⟩ y).setCell ⟨g, 2, none⟩ z) :=
 ((h.setCell (by exact hg) _).setCell (by exact hg) _).setCell (by exact hg) _
end
def Row4 (w : World) (g : Nat) (T : TypeId) (a b c d : Value) : Prop := w.heap[g]? = some (.cells #[a, b, c, d] T (0, 0))
section
variable {w w' : World} {g : Nat} {T : TypeId} {a b c d : Value}
theorem Row4.lt (h : Row4 w g T a b c d) : g < w.heap.size := by
 rcases Nat.lt_or_ge g w.heap.size with hlt | hge
 · exact hlt
 · unfold Row4 at h; rw [Array.getElem?_eq_none hge] at h; cases h
theorem Row4.below (h : Row4 w g T a b c d) (hb : Below w.heap.size w w') : Row4 w' g T a b c d := (hb.block g h.lt).trans h
theorem Row4.c0 (h : Row4 w g T a b c d) : w.cell? ⟨g, 0, none⟩ = some a := by unfold Row4 at h; simp [World.cell?, h]
theorem Row4.c1 (h : Row4 w g T a b c d) : w.cell? ⟨g, 1, none⟩ = some b := by unfold Row4 at h; simp [World.cell?, h]
theorem Row4.c2 (h : Row4 w g T a b c d) : w.cell? ⟨g, 2, none⟩ = some c := by unfold Row4 at h; simp [World.cell?, h]
theorem Row4.c3 (h : Row4 w g T a b c d) : w.cell? ⟨g, 3, none⟩ = some d := by unfold Row4 at h; simp [World.cell?, h]
theorem Row4.free (h : Row4 w g T a b c d) (k : Nat) : w.frozen? ⟨g, k, none⟩ = false := by unfold Row4 at h; simp [World.frozen?, h]
theorem Row4.fill (h : Row4 w g T a b c d) (x y z v : Value) : Row4 ((((w.setCell ⟨g, 0, none⟩ x).setCell ⟨g, 1, none⟩ y).setCell ⟨g, 2, none⟩ z).setCell ⟨g, 3, none⟩ v) g T x y z v := by
 unfold Row4 at h ⊢
 simp [World.setCell, Array.getElem?_modify, h]
theorem row4_new (w : World) (T : TypeId) (a b c d : Value) : Row4 (w.alloc (.cells #[a, b, c, d] T)) w.heap.size T a b c d := heap_alloc_new _ _
theorem below_fill4 (h : Below w.heap.size w w') (hg : w.heap.size ≤ g) (x y z v : Value) : Below w.heap.size w ((((w'.setCell ⟨g, 0, none⟩ x).setCell ⟨g, 1, none⟩ y).setCell ⟨g, 2, none⟩ z).setCell ⟨g, 3, none⟩ v) :=
 (((h.setCell (by exact hg) _).setCell (by exact hg) _).setCell (by exact hg) _).setCell (by exact hg) _
end
def NoLimb (w : World) (g : Nat) : Prop := ∀ o v, w.cell? ⟨g, o, none⟩ ≠ some (.int .u32 v)
theorem apart_of {w : World} {A : Option Addr} {n c : Nat} {xs : List Nat} {a L g : Nat} (h : NN w A n c xs a L) (hg : NoLimb w g) : Apart g A n := by
 intro hn b o s e
 obtain ⟨b', o', e', hlt, hc⟩ := h.isN.2.2 hn
 rw [e] at e'
 injection e' with e'
 injection e' with e1 e2
 rintro rfl
 subst e1
 exact hg _ _ (hc 0 hn)
theorem Row3.noLimb {w : World} {g : Nat} {T : TypeId} {a b c : Value} (h : Row3 w g T a b c) (ha : ∀ v, a ≠ .int .u32 v) (hb : ∀ v, b ≠ .int .u32 v) (hc : ∀ v, c ≠ .int .u32 v) : NoLimb w g := by
 intro o v e
 unfold Row3 at h
 match o, e with
 | 0, e => rw [show w.cell? ⟨g, 0, none⟩ = some a by simp [World.cell?, h]] at e; exact ha v (Option.some.inj e)
 | 1, e => rw [show w.cell? ⟨g, 1, none⟩ = some b by simp [World.cell?, h]] at e; exact hb v (Option.some.inj e)
 | 2, e => rw [show w.cell? ⟨g, 2, none⟩ = some c by simp [World.cell?, h]] at e; exact hc v (Option.some.inj e)
 | o + 3, e => simp [World.cell?, h] at e
theorem Row4.noLimb {w : World} {g : Nat} {T : TypeId} {a b c d : Value} (h : Row4 w g T a b c d) (ha : ∀ v, a ≠ .int .u32 v) (hb : ∀ v, b ≠ .int .u32 v) (hc : ∀ v, c ≠ .int .u32 v) (hd : ∀ v, d ≠ .int .u32 v) : NoLimb w g := by
 intro o v e
 unfold Row4 at h
 match o, e with
 | 0, e => rw [show w.cell? ⟨g, 0, none⟩ = some a by simp [World.cell?, h]] at e; exact ha v (Option.some.inj e)
 | 1, e => rw [show w.cell? ⟨g, 1, none⟩ = some b by simp [World.cell?, h]] at e; exact hb v (Option.some.inj e)
 | 2, e => rw [show w.cell? ⟨g, 2, none⟩ = some c by simp [World.cell?, h]] at e; exact hc v (Option.some.inj e)
 | 3, e => rw [show w.cell? ⟨g, 3, none⟩ = some d by simp [World.cell?, h]] at e; exact hd v (Option.some.inj e)
 | o + 4, e => simp [World.cell?, h] at e
theorem NN.fillR3 {w : World} {A : Option Addr} {n c : Nat} {xs : List Nat} {a L g : Nat} (h : NN w A n c xs a L) (hg : NoLimb w g) (x y z : Value) : NN (((w.setCell ⟨g, 0, none⟩ x).setCell ⟨g, 1, none⟩ y).setCell ⟨g, 2, none⟩ z) A n c xs a L :=
 ((h.elsewhere (apart_of h hg) 0 x).elsewhere (apart_of h hg) 1 y).elsewhere (apart_of h hg) 2 z
theorem NN.fillR4 {w : World} {A : Option Addr} {n c : Nat} {xs : List Nat} {a L g : Nat} (h : NN w A n c xs a L) (hg : NoLimb w g) (x y z v : Value) : NN ((((w.setCell ⟨g, 0, none⟩ x).setCell ⟨g, 1, none⟩ y).setCell ⟨g, 2, none⟩ z).setCell ⟨g, 3, none⟩ v) A n c xs a L :=
 (h.fillR3 hg x y z).elsewhere (apart_of h hg) 3 v
theorem ZZ.fillR3 {w : World} {s : Bool} {A : Option Addr} {n c : Nat} {xs : List Nat} {z : Int} {L g : Nat} (h : ZZ w s A n c xs z L) (hg : NoLimb w g) (x y v : Value) : ZZ (((w.setCell ⟨g, 0, none⟩ x).setCell ⟨g, 1, none⟩ y).setCell ⟨g, 2, none⟩ v) s A n c xs z L := ⟨h.nn.fillR3 hg x y v, h.sgn⟩
theorem ZZ.fillR4 {w : World} {s : Bool} {A : Option Addr} {n c : Nat} {xs : List Nat} {z : Int} {L g : Nat} (h : ZZ w s A n c xs z L) (hg : NoLimb w g) (x y v u : Value) : ZZ ((((w.setCell ⟨g, 0, none⟩ x).setCell ⟨g, 1, none⟩ y).setCell ⟨g, 2, none⟩ v).setCell ⟨g, 3, none⟩ u) s A n c xs z L := ⟨h.nn.fillR4 hg x y v u, h.sgn⟩
end Go.Proofs.YtjikaojffgjndaaGreatDoor

/- What package quo's limbAt, head and gcdSmall answer, as contracts over memory: a limb, 0 beyond; the 64 bits from a place on; the greatest divisor of two words. Conditions: the list reads as limbs, of at most 10^9 of them. -/
namespace Go.Proofs.YtjikaojffgjndaaGreatDoor.Limb
theorem head_bits {V k l0 l1 l2 : Nat} (e0 : l0 = V / 4294967296 ^ (k / 32) % 4294967296) (e1 : l1 = V / 4294967296 ^ (k / 32 + 1) % 4294967296) (e2 : l2 = V / 4294967296 ^ (k / 32 + 2) % 4294967296) :
 (l0 ||| l1 * 4294967296) / 2 ^ (k % 32) ||| (l2 * 2 ^ (64 - k % 32) % 18446744073709551616) = V / 2 ^ k % 18446744073709551616 := by
 refine Nat.eq_of_testBit_eq fun i => ?_
 have hr : k % 32 < 32 := Nat.mod_lt _ (by decide)
 have hk : k = 32 * (k / 32) + k % 32 := by omega
 rw [e0, e1, e2, pow32, pow32, pow32, show (18446744073709551616 : Nat) = 2 ^ 64 from rfl, show (4294967296 : Nat) = 2 ^ 32 from rfl]
 simp only [Nat.testBit_or, Nat.testBit_div_two_pow, Nat.testBit_mod_two_pow, Nat.testBit_mul_two_pow]
 generalize k % 32 = r at *
 generalize k / 32 = q at *
 subst hk
 by_cases c1 : i + r < 32
 · have e : i + r + 32 * q = i + (32 * q + r) := by omega
   have d1 : i < 64 := by omega
   have d2 : ¬ 64 - r ≤ i := by omega
   have d3 : ¬ 32 ≤ i + r := by omega
   simp [c1, d1, d2, d3, e]
 · by_cases c2 : i + r < 64
   · have e : i + r - 32 + 32 * (q + 1) = i + (32 * q + r) := by omega
     have d1 : i < 64 := by omega
     have d2 : ¬ 64 - r ≤ i := by omega
     have d3 : 32 ≤ i + r := by omega
     have d4 : i + r - 32 < 32 := by omega
     simp [c1, d1, d2, d3, d4, e]
   · by_cases c3 : i < 64
     · have e : i - (64 - r) + 32 * (q + 2) = i + (32 * q + r) := by omega
       have d2 : 64 - r ≤ i := by omega
       have d4 : ¬ i + r - 32 < 32 := by omega
       have d5 : i - (64 - r) < 32 := by omega
       simp [c1, c3, d2, d4, d5, e]
     · simp [c3]
       omega
end Go.Proofs.YtjikaojffgjndaaGreatDoor.Limb
namespace Go.Proofs.YtjikaojffgjndaaGreatDoor
open Go.RowKit Limb
set_option linter.unusedVariables false
set_option maxHeartbeats 400000 in
theorem limbAt_any (A : Option Addr) (n c : Nat) (xs : List Nat) (w : World) (hx : IsN w A n xs) (hm : n ≤ 1000000000) (k : Nat) (I : Int) (hI : I = k) (hk : k ≤ 100000000000) :
 Calls Tryz.prog 155 #[.slice A n c, .int .i64 I] w fun e w' => e = .returned (.int .u64 ((lim xs k : Nat) : Int)) ∧ w = w' := by
 subst hI
 by_cases h : k < n
 · obtain ⟨b, o, rfl, hb, hc⟩ := hx.2.2 (by omega)
   have h1 := hc k h
   have h2 := lim_lt hx.small k
   go_enter Tryz.func155, Tryz.ntmps155
   go_wp2
   go_ret
   exact ⟨rfl, rfl⟩
 · have h1 : lim xs k = 0 := lim_of_ge (by rw [hx.len]; omega)
   have H1 := Lib.hid h1
   clear h1
   go_enter Tryz.func155, Tryz.ntmps155
   go_wp2
   go_ret
   exact ⟨ret_int (by rw [H1.out]; rfl), rfl⟩
theorem limbAt_q {A : Option Addr} {n c : Nat} {xs : List Nat} {w : World} (hx : IsN w A n xs) (hm : n ≤ 1000000000) (k : Nat) (I : Int) (hI : I = k) (hk : k ≤ 100000000000) (nd : Nat) :
 Calls Tryz.prog 155 #[.slice A n c, .int .i64 I] (w.drewN nd) fun e w' => e = .returned (.int .u64 ((lim xs k : Nat) : Int)) ∧ ∃ m, w' = w.drewN m :=
 (limbAt_any A n c xs (w.drewN nd) (hx.below (below_drewN (Below.refl _ _) nd)) hm k I hI hk).mono fun _ _ ⟨h1, h2⟩ => ⟨h1, nd, h2.symm⟩
set_option maxHeartbeats 1000000 in
theorem head_any (A : Option Addr) (n c : Nat) (xs : List Nat) (w : World) (hx : IsN w A n xs) (hm : n ≤ 1000000000) (k : Nat) (I : Int) (hI : I = k) (hk : k ≤ 1000000000000) (v : Nat) (hv : val xs / 2 ^ k % 18446744073709551616 = v) :
 Calls Tryz.prog 133 #[.slice A n c, .int .i64 I] w fun e w' => e = .returned (.int .u64 (v : Int)) ∧ ∃ nd, w' = w.drewN nd := by
 subst hI
 obtain ⟨q, hq⟩ : ∃ q, q = k / 32 := ⟨_, rfl⟩
 obtain ⟨r, hr⟩ : ∃ r, r = k % 32 := ⟨_, rfl⟩
 have eq1 : (k : Int) / 32 = (q : Int) := by omega
 have er1 : (k : Int) % 32 = (r : Int) := by omega
 have hr32 : r < 32 := by omega
 have hq3 : q ≤ 90000000000 := by omega
 have l0 := lim_lt hx.small q
 have l1 := lim_lt hx.small (q + 1)
 have l2 := lim_lt hx.small (q + 2)
 have hh := head_bits (V := val xs) (k := k) (lim_eq_div xs hx.small _).symm (lim_eq_div xs hx.small _).symm (lim_eq_div xs hx.small _).symm
 rw [← hq, ← hr, hv] at hh
 have Hh := Lib.hid hh
 clear hh hv hq hr
 go_enter Tryz.func133, Tryz.ntmps133
 go_wp2_with fail
 refine (limbAt_any A n c xs w hx hm q _ rfl (by omega)).mono ?_
 rintro e w1 ⟨rfl, rfl⟩
 go_wp2_with fail
 refine (limbAt_any A n c xs w hx hm (q + 1) _ (by omega) (by omega)).mono ?_
 rintro e w1 ⟨rfl, rfl⟩
 obtain ⟨low, hlow⟩ : ∃ x, x = lim xs q ||| lim xs (q + 1) * 4294967296 := ⟨_, rfl⟩
 have hor : bits BinOp.or IntKind.u64 ((lim xs q : Nat) : Int) (((lim xs (q + 1) : Nat) : Int) * 4294967296) = (low : Int) := by
  have := u64_or_nat (lim xs q) (lim xs (q + 1) * 4294967296) (by omega) (by omega)
  rw [hlow, ← this]; rfl
 have hlow2 : low < 18446744073709551616 := by
  rw [hlow]
  exact Nat.or_lt_two_pow (n := 64) (by omega) (by omega)
 rw [← hlow] at Hh
 clear hlow
 have ew : IntKind.i64.wrap ((q : Int) + 2) = (q : Int) + 2 := IntWalk.i64_in _ (by omega)
 have e2 : (q : Int) + 2 = ((q + 2 : Nat) : Int) := by omega
 have E2 := Lib.hid e2
 have ew2 : IntKind.i64.wrap (64 - (r : Int)) = 64 - (r : Int) := IntWalk.i64_in _ (by omega)
 clear e2
 go_wp2
 go_quiet ((go_at_call 155; exact limbAt_q hx hm (q + 2) _ E2.out (by omega) _))
 go_wp2
 have Hor : RowKit.Hid (bits BinOp.or IntKind.u64 ((low : Int) / 2 ^ r) (IntKind.u64.wrap (((lim xs (q + 2) : Nat) : Int) * 2 ^ (64 - r))) = (v : Int)) := by
  show _ = _
  have a1 : (low : Int) / 2 ^ r = ((low / 2 ^ r : Nat) : Int) := by rw [Int.natCast_ediv, Int.natCast_pow]; rfl
  have a2 : IntKind.u64.wrap (((lim xs (q + 2) : Nat) : Int) * 2 ^ (64 - r)) = ((lim xs (q + 2) * 2 ^ (64 - r) % 18446744073709551616 : Nat) : Int) := by
   rw [IntKind.wrap_u64, Int.natCast_emod, Int.natCast_mul, Int.natCast_pow]; rfl
  rw [a1, a2, u64_or_nat _ _ (Nat.lt_of_le_of_lt (Nat.div_le_self _ _) hlow2) (Nat.mod_lt _ (by decide)), Hh.out]
 go_ret
 exact ⟨ret_int Hor.out, _, rfl⟩
set_option maxHeartbeats 1000000 in
theorem gcdSmall_any (x y : Nat) (X Y : Int) (hX : X = x) (hY : Y = y) (w : World) (hx : x < 18446744073709551616) (hy : y < 18446744073709551616) (g : Nat) (hg : gcdN x y = g) :
 Calls Tryz.prog 132 #[.int .u64 X, .int .u64 Y] w fun e w' => e = .returned (.int .u64 (g : Int)) ∧ Below w.heap.size w w' := by
 subst hX hY
 have Hg := Lib.hid hg
 have Hb := Lib.hid (Below.refl w.heap.size w)
 clear hg
 go_enter Tryz.func132, Tryz.ntmps132
 go_wp2
 go_loopw [0, 1] (fun a b wr => ∃ (x y : Nat), a = .int .u64 (x : Int) ∧ b = .int .u64 (y : Int) ∧ x < 18446744073709551616 ∧ y < 18446744073709551616 ∧ RowKit.Hid (gcdN x y = g) ∧ RowKit.Hid (Below w.heap.size w wr)) (fun _ b _ => (intOf b).toNat)
 case atStart => exact ⟨x, y, rfl, rfl, hx, hy, Hg, Hb⟩
 case round =>
  clear hx hy Hg Hb
  obtain ⟨x, y, rfl, rfl, hx, hy, Hg, Hb⟩ := hrel
  by_cases h0 : y = 0
  · subst h0
    have He := Lib.hid (gcdN_end Hg.out)
    go_wp2
    go_ret
    exact ⟨ret_int (by rw [He.out]), Hb.out⟩
  · have hne : ((y : Int) == 0) = false := by simp; omega
    have hne2 : ((y : Int) != 0) = true := by simp; omega
    obtain ⟨m, hm⟩ : ∃ m, m = x % y := ⟨_, rfl⟩
    have hml : m < y := by rw [hm]; exact Nat.mod_lt _ (by omega)
    have em : (x : Int) % (y : Int) = (m : Int) := by rw [hm]; simp
    have Hg2 : RowKit.Hid (gcdN y m = g) := by show _ = _; rw [hm]; exact gcdN_step Hg.out
    have hy0 : 0 < y := by omega
    clear hm Hg h0
    go_wp2
    go_quiet (fail)
    have Hb2 := Lib.hid (below_drewN Hb.out nq)
    clear Hb
    go_wp2
    go_roundw
    case rel => exact ⟨y, m, rfl, by rw [em], hy, by omega, Hg2, Hb2⟩
    case measure => simp [intOf]; omega
end Go.Proofs.YtjikaojffgjndaaGreatDoor

/- What package quo's mix.of answers, as a contract over memory: the sum of multiples of two numbers, in its shortest limbs. Conditions: both read as limbs, the second one not longer, of at most 10^8 of them; the multipliers are below 2^31, one of them not above 0 and one not below; the sum is not below 0 and fits in the first one's limbs. -/
namespace Go.Proofs.YtjikaojffgjndaaGreatDoor.Limb
def OfInv (P Q : Int) (xs ys zs : List Nat) (k : Nat) (cy : Int) : Prop :=
 zs.length = xs.length ∧ ((val (zs.take k) : Nat) : Int) + cy * ((4294967296 ^ k : Nat) : Int) = P * ((val (xs.take k) : Nat) : Int) + Q * ((val (ys.take k) : Nat) : Int)
theorem OfInv.start (P Q : Int) (xs ys zs : List Nat) (h : zs.length = xs.length) : OfInv P Q xs ys zs 0 0 := ⟨h, by simp [val]⟩
theorem of_step {Z cy E P Q X Y x y lo c2 : Int} (h : Z + cy * E = P * X + Q * Y) (hs : cy + (P * x + Q * y) = lo + c2 * 4294967296) : Z + E * lo + c2 * (E * 4294967296) = P * (X + E * x) + Q * (Y + E * y) := by grind
theorem OfInv.step {P Q : Int} {xs ys zs : List Nat} {k lo : Nat} {cy c2 : Int} (h : OfInv P Q xs ys zs k cy) (hk : k < xs.length) (hs : cy + (P * ((lim xs k : Nat) : Int) + Q * ((lim ys k : Nat) : Int)) = (lo : Int) + c2 * 4294967296) :
 OfInv P Q xs ys (zs.set k lo) (k + 1) c2 := by
 obtain ⟨h1, h2⟩ := h
 refine ⟨by simpa using h1, ?_⟩
 rw [val_take_set (by omega), val_take_lim xs, val_take_lim ys, Nat.pow_succ]
 simp only [Int.natCast_add, Int.natCast_mul]
 exact of_step h2 hs
theorem OfInv.done {P Q : Int} {xs ys zs : List Nat} {k v : Nat} {cy : Int} (h : OfInv P Q xs ys zs k cy) (hk : k = xs.length) (hy : ys.length ≤ k) (hz : Small zs) (hv : P * ((val xs : Nat) : Int) + Q * ((val ys : Nat) : Int) = (v : Int)) (hv2 : v < 4294967296 ^ k) : val zs = v := by
 obtain ⟨h1, h2⟩ := h
 rw [List.take_of_length_le (by omega), List.take_of_length_le (by omega), List.take_of_length_le hy, hv] at h2
 have h3 := val_lt hz
 rw [h1, ← hk] at h3
 generalize 4294967296 ^ k = E at *
 have h4 : cy = 0 := by
  rcases Int.lt_trichotomy cy 0 with h | h | h
  · exfalso
    have : (cy + 1) * (E : Int) ≤ 0 := Int.mul_nonpos_of_nonpos_of_nonneg (by omega) (by omega)
    rw [Int.add_mul, Int.one_mul] at this
    omega
  · exact h
  · exfalso
    have : 0 ≤ (cy - 1) * (E : Int) := Int.mul_nonneg (by omega) (by omega)
    rw [Int.sub_mul, Int.one_mul] at this
    omega
 subst h4
 omega
def MixOk (P Q : Int) : Prop := -2147483648 < P ∧ P < 2147483648 ∧ -2147483648 < Q ∧ Q < 2147483648 ∧ ((0 ≤ P ∧ Q ≤ 0) ∨ (P ≤ 0 ∧ 0 ≤ Q))
theorem mul_bd {a x : Int} (hx0 : 0 ≤ x) (hx : x ≤ 4294967295) (ha : 0 ≤ a) : 0 ≤ a * x ∧ a * x ≤ a * 4294967295 := ⟨Int.mul_nonneg ha hx0, Int.mul_le_mul_of_nonneg_left hx ha⟩
theorem mul_bd' {a x : Int} (hx0 : 0 ≤ x) (hx : x ≤ 4294967295) (ha : a ≤ 0) : a * x ≤ 0 ∧ a * 4294967295 ≤ a * x := by
 have h1 := Int.mul_nonneg (show 0 ≤ -a by omega) hx0
 have h2 := Int.mul_le_mul_of_nonneg_left hx (show 0 ≤ -a by omega)
 rw [Int.neg_mul] at h1 h2
 rw [Int.neg_mul] at h2
 omega
theorem mix_bound {P Q : Int} (h : MixOk P Q) : ∃ lo hi : Int, -2147483648 < lo ∧ lo ≤ 0 ∧ 0 ≤ hi ∧ hi < 2147483648 ∧ ∀ x y : Int, 0 ≤ x → x ≤ 4294967295 → 0 ≤ y → y ≤ 4294967295 →
 lo * 4294967295 ≤ P * x + Q * y ∧ P * x + Q * y ≤ hi * 4294967295 ∧ -9223372036854775808 ≤ P * x ∧ P * x ≤ 9223372036854775807 ∧ -9223372036854775808 ≤ Q * y ∧ Q * y ≤ 9223372036854775807 := by
 obtain ⟨h1, h2, h3, h4, h5⟩ := h
 rcases h5 with ⟨h5, h6⟩ | ⟨h5, h6⟩
 · refine ⟨Q, P, h3, h6, h5, h2, fun x y a b c d => ?_⟩
   have e1 := mul_bd a b h5
   have e2 := mul_bd' c d h6
   omega
 · refine ⟨P, Q, h1, h5, h6, h4, fun x y a b c d => ?_⟩
   have e1 := mul_bd' a b h5
   have e2 := mul_bd c d h6
   omega
end Go.Proofs.YtjikaojffgjndaaGreatDoor.Limb
namespace Go.Proofs.YtjikaojffgjndaaGreatDoor
open Go.RowKit Limb
set_option linter.unusedVariables false
set_option maxHeartbeats 600000 in
theorem of_mix (P Q : Int) (A : Option Addr) (n c : Nat) (xs : List Nat) (A' : Option Addr) (n' c' : Nat) (ys : List Nat) (w : World) (hx : IsN w A n xs) (hy : IsN w A' n' ys) (hm : n ≤ 100000000) (hn : n' ≤ n) (hPQ : MixOk P Q)
 (v : Nat) (hv : P * ((val xs : Nat) : Int) + Q * ((val ys : Nat) : Int) = (v : Int)) (hv2 : v < 4294967296 ^ n) :
 Calls Tryz.prog 154 #[.agg #[.int .i64 P, .int .i64 Q], .slice A n c, .slice A' n' c'] w fun e w' => ∃ A2 n2 c2, e = .returned (.slice A2 n2 c2) ∧ OwnN w' w.heap.size A2 n2 c2 (limbs v) ∧ Below w.heap.size w w' := by
 obtain ⟨lo, hi, hlo1, hlo2, hhi1, hhi2, hbd⟩ := mix_bound hPQ
 have Hbd := Lib.hid hbd
 have Hv := Lib.hid hv
 have Hv2 := Lib.hid hv2
 obtain ⟨p1, p2, q1, q2, _⟩ := hPQ
 have hmk := run_made (n : Int) n rfl (by omega)
 have hbx := below_new w (.cells #[.int .i64 P, .int .i64 Q] 158)
 have cP : (w.alloc (.cells #[.int .i64 P, .int .i64 Q] 158)).cell? ⟨w.heap.size, 0, none⟩ = some (.int .i64 P) := by
  rw [World.cell?_alloc_at _ _ _ _ rfl]; rfl
 have cQ : (w.alloc (.cells #[.int .i64 P, .int .i64 Q] 158)).cell? ⟨w.heap.size, 1, none⟩ = some (.int .i64 Q) := by
  rw [World.cell?_alloc_at _ _ _ _ rfl]; rfl
 have hx1 := hx.below hbx
 have hy1 := hy.below hbx
 have Hbx := Lib.hid hbx
 obtain ⟨w1, hw1⟩ : ∃ x, x = w.alloc (.cells #[.int .i64 P, .int .i64 Q] 158) := ⟨_, rfl⟩
 have hsz : w1.heap.size = w.heap.size + 1 := by rw [hw1]; simp
 have Hw1 := Lib.hid hw1
 rw [← hw1] at cP cQ hx1 hy1 Hbx
 have Hrow : RowKit.Hid (OwnN (w1.alloc (.cells (madeCells #[.int .u32 0] n) 74)) (w.heap.size + 1) (some ⟨w.heap.size + 1, 0, none⟩) n n (List.replicate n 0)) := by
  have h := own_made w1 n (by omega)
  rw [hsz] at h
  exact h
 have Hb1 : RowKit.Hid (Below (w.heap.size + 1) w1 (w1.alloc (.cells (madeCells #[.int .u32 0] n) 74))) := by
  have h := below_new w1 (.cells (madeCells #[.int .u32 0] n) 74)
  rw [hsz] at h
  exact h
 have Hsz := Lib.hid hsz
 have Hst := Lib.hid (OfInv.start P Q xs ys (List.replicate n 0) (by rw [List.length_replicate, hx1.len]))
 have Hxl := Lib.hid hx1.len
 have Hyl := Lib.hid hy1.len
 clear hbd hv hv2 hbx hx hy hsz hw1
 go_enter Tryz.func154, Tryz.ntmps154
 go_wp2
 rw [← Hw1.out]
 go_loopw [15, 8] (fun i cv wr => ∃ (k : Nat) (cy : Int) (zs : List Nat), k ≤ n ∧ i = .int .i64 (k : Int) ∧ cv = .int .i64 cy ∧ lo ≤ cy ∧ cy ≤ hi ∧ RowKit.Hid (OfInv P Q xs ys zs k cy) ∧ RowKit.Hid (OwnN wr (w.heap.size + 1) (some ⟨w.heap.size + 1, 0, none⟩) n n zs) ∧ RowKit.Hid (Below (w.heap.size + 1) w1 wr)) (fun i _ _ => n - (intOf i).toNat)
 case atStart => exact ⟨0, 0, _, Nat.zero_le _, rfl, rfl, hlo2, hhi1, Hst, Hrow, Hb1⟩
 case round =>
  clear Hst Hrow Hb1 hmk
  obtain ⟨k, cy, zs, hk, rfl, rfl, hc1, hc2, Hinv, Hrow, Hb⟩ := hrel
  by_cases hkn : k < n
  · have hb := Hb.out
    rw [← Hsz.out] at hb
    have hxk := hx1.below hb
    have hyk := hy1.below hb
    have dP : wr.cell? ⟨w.heap.size, 0, none⟩ = some (.int .i64 P) := (Hb.out.cell (p := ⟨w.heap.size, 0, none⟩) (Nat.lt_succ_self _)).trans cP
    have dQ : wr.cell? ⟨w.heap.size, 1, none⟩ = some (.int .i64 Q) := (Hb.out.cell (p := ⟨w.heap.size, 1, none⟩) (Nat.lt_succ_self _)).trans cQ
    have lx := lim_lt hxk.small k
    have ly := lim_lt hyk.small k
    have HA := Lib.hid (fun nd => limbAt_q (c := c) hxk (by omega) k _ rfl (by omega) nd)
    have HB := Lib.hid (fun nd => limbAt_q (c := c') hyk (by omega) k _ rfl (by omega) nd)
    obtain ⟨b1, b2, b3, b4, b5, b6⟩ := Hbd.out ((lim xs k : Nat) : Int) ((lim ys k : Nat) : Int) (by omega) (by omega) (by omega) (by omega)
    obtain ⟨px, hpx⟩ : ∃ x, x = P * ((lim xs k : Nat) : Int) := ⟨_, rfl⟩
    obtain ⟨qy, hqy⟩ : ∃ x, x = Q * ((lim ys k : Nat) : Int) := ⟨_, rfl⟩
    rw [← hpx, ← hqy] at b1 b2
    rw [← hpx] at b3 b4
    rw [← hqy] at b5 b6
    obtain ⟨l, hl⟩ : ∃ l : Nat, (l : Int) = (cy + (px + qy)) % 4294967296 := ⟨((cy + (px + qy)) % 4294967296).toNat, by omega⟩
    obtain ⟨c2, hc2'⟩ : ∃ c2 : Int, c2 = (cy + (px + qy)) / 4294967296 := ⟨_, rfl⟩
    have hl4 : l < 4294967296 := by omega
    have hs : cy + (px + qy) = (l : Int) + c2 * 4294967296 := by omega
    have hc3 : lo ≤ c2 := by omega
    have hc4 : c2 ≤ hi := by omega
    have Hst : RowKit.Hid (OfInv P Q xs ys (zs.set k l) (k + 1) c2) := Hinv.out.step (by rw [Hxl.out]; exact hkn) (by rw [← hpx, ← hqy]; exact hs)
    have w1' : IntKind.i64.wrap (P * ((lim xs k : Nat) : Int)) = px := by rw [← hpx]; exact IntWalk.i64_in _ (by omega)
    have w2' : IntKind.i64.wrap (Q * ((lim ys k : Nat) : Int)) = qy := by rw [← hqy]; exact IntWalk.i64_in _ (by omega)
    have w3' : IntKind.i64.wrap (px + qy) = px + qy := IntWalk.i64_in _ (by omega)
    have w4' : IntKind.i64.wrap (cy + (px + qy)) = cy + (px + qy) := IntWalk.i64_in _ (by omega)
    have w5' : IntKind.i64.wrap ((lim xs k : Nat) : Int) = ((lim xs k : Nat) : Int) := IntWalk.i64_in _ (by omega)
    have w6' : IntKind.i64.wrap ((lim ys k : Nat) : Int) = ((lim ys k : Nat) : Int) := IntWalk.i64_in _ (by omega)
    have es : (cy + (px + qy)) % 4294967296 = (l : Int) := hl.symm
    have eh : (cy + (px + qy)) / 4294967296 = c2 := hc2'.symm
    clear hb hxk hyk hpx hqy hl hc2' hs Hinv
    go_wp2
    go_quiet ((first | (go_at_call 155; with_reducible exact HA.out _) | (go_at_call 155; with_reducible exact HB.out _)))
    have Hrow2 : RowKit.Hid (OwnN (wr.drewN nq) (w.heap.size + 1) (some ⟨w.heap.size + 1, 0, none⟩) n n zs) := Hrow.out.below (below_drewN (Below.refl _ _) nq) (Nat.le_refl _)
    have Hb2 := Lib.hid (below_drewN Hb.out nq)
    clear Hrow Hb w1' w2' w3' w4' w5' w6' dP dQ HA HB
    generalize wr.drewN nq = w2 at *
    have c0 := Hrow2.out.cell (k := k) (by omega)
    have f0 := Hrow2.out.1.frozenAt k
    have Hset := Lib.hid (Hrow2.out.set k hl4)
    have Hb3 : RowKit.Hid (Below (w.heap.size + 1) w1 (w2.setCell ⟨w.heap.size + 1, k, none⟩ (.int .u32 (l : Int)))) := Hb2.out.setCell (by exact Nat.le_refl _) _
    clear Hrow2 Hb2
    go_wp2
    go_roundw
    case rel => exact ⟨k + 1, c2, zs.set k l, by omega, by go_num, rfl, hc3, hc4, Hst, Hset, Hb3⟩
    case measure => simp [intOf]; omega
  · obtain rfl : k = n := by omega
    have hz := Hrow.out.isN
    have hsm := Hrow.out.small
    have hval := Hinv.out.done Hxl.out.symm (by rw [Hyl.out]; exact hn) hsm Hv.out Hv2.out
    have Hval := Lib.hid hval
    clear hval
    go_wp2_with fail
    refine (trim_any _ k k zs wr hz (Nat.le_refl _) (by omega)).mono ?_
    rintro e w5 ⟨A5, n5, c5, rfl, how, hb5⟩
    have How : RowKit.Hid (OwnN w5 w.heap.size A5 n5 c5 (limbs v)) := by
     rw [trim_eq_limbs hsm, Hval.out] at how
     have hs := Hb.out.size
     exact how.mono (by have := Hsz.out; omega)
    have HW : RowKit.Hid (Below w.heap.size w w5) := by
     have hb := Hb.out
     rw [← Hsz.out] at hb
     exact below_two (below_two Hbx.out hb) hb5
    clear how hb5
    go_wp2
    go_ret
    exact ⟨_, _, _, rfl, How.out, HW.out⟩
end Go.Proofs.YtjikaojffgjndaaGreatDoor

/- Plain mathematics of divisions that are done on the heads of two numbers: multiples of both, as far as the heads make the quotients certain. No condition. -/
namespace Go.Proofs.YtjikaojffgjndaaGreatDoor.Limb
theorem square_bd {y t n : Int} (h1 : t ≤ y) (h2 : y * t ≤ n) (h3 : n < 4611686018427387904) (h0 : 0 ≤ y) : t < 2147483648 := by
 by_cases h : t < 2147483648
 · exact h
 · exfalso
   have h4 : 2147483648 * t ≤ y * t := Int.mul_le_mul_of_nonneg_right (by omega) (by omega)
   omega
theorem head_half {x0 y0 fa fb sa sb ta tb y z q : Int} (ha : 0 ≤ fa) (hb : fb ≤ 0) (hc : sa ≤ 0) (hd : 0 ≤ sb) (hq : 0 ≤ q) (e1 : ta = fa - q * sa) (e2 : tb = fb - q * sb)
 (r1 : z + ta < y + sa) (r2 : 0 ≤ z + tb) (i1 : y * (-tb) + z * sb = x0) (i2 : y * ta + z * (-sa) = y0) (hx : x0 < 4611686018427387904) (hy : y0 < 4611686018427387904) :
 0 ≤ ta ∧ tb ≤ 0 ∧ 0 ≤ z ∧ z < y ∧ ta < 2147483648 ∧ -2147483648 < tb := by
 have p1 : 0 ≤ q * (-sa) := Int.mul_nonneg hq (by omega)
 have p2 : 0 ≤ q * sb := Int.mul_nonneg hq hd
 rw [Int.mul_neg] at p1
 have h1 : 0 ≤ ta := by omega
 have h2 : tb ≤ 0 := by omega
 have h3 : 0 ≤ z := by omega
 have h4 : z < y := by omega
 have p3 : 0 ≤ z * sb := Int.mul_nonneg h3 hd
 have p4 : 0 ≤ z * (-sa) := Int.mul_nonneg h3 (by omega)
 have h5 := square_bd (y := y) (t := ta) (n := y0) (by omega) (by omega) hy (by omega)
 have h6 := square_bd (y := y) (t := -tb) (n := x0) (by omega) (by omega) hx (by omega)
 exact ⟨h1, h2, h3, h4, h5, by omega⟩
structure SInv (x0 y0 a b fa fb sa sb x y : Int) : Prop where
 ex : x = fa * x0 + fb * y0
 ey : y = sa * x0 + sb * y0
 n1 : 0 ≤ x + fa
 n2 : 0 ≤ x + fb
 n3 : 0 ≤ y + sa
 n4 : 0 ≤ y + sb
 sg : (0 ≤ fa ∧ fb ≤ 0 ∧ sa ≤ 0 ∧ 0 ≤ sb ∧ fa * sb - fb * sa = 1) ∨ (fa ≤ 0 ∧ 0 ≤ fb ∧ 0 ≤ sa ∧ sb ≤ 0 ∧ fa * sb - fb * sa = -1)
 m1 : MixOk fa fb
 m2 : MixOk sa sb
 g : Int.gcd (fa * a + fb * b) (sa * a + sb * b) = Int.gcd a b
 st : (fa = 1 ∧ fb = 0 ∧ sa = 0 ∧ sb = 1) ∨ (y + sa < x + fa ∧ y + sb < x + fb ∧ fa * a + fb * b ≤ b)
 yp : 0 ≤ y
 xb : x < 4611686018427387904
 yx : y ≤ x
structure Heads (x0 y0 a b S : Int) : Prop where
 s : 0 < S
 a1 : x0 * S ≤ a
 a2 : a < (x0 + 1) * S
 b1 : y0 * S ≤ b
 b2 : b < (y0 + 1) * S
 x62 : x0 < 4611686018427387904
 yp : 0 ≤ y0
 yx : y0 ≤ x0
 xp : 0 ≤ x0
theorem SInv.start {x0 y0 a b S : Int} (h : Heads x0 y0 a b S) : SInv x0 y0 a b 1 0 0 1 x0 y0 := by
 have h1 := h.yp; have h2 := h.yx; have h3 := h.x62; have h4 := h.xp
 refine ⟨by omega, by omega, by omega, by omega, by omega, by omega, .inl (by omega), ?_, ?_, by simp, .inl (by omega), by omega, by omega, by omega⟩
 · unfold MixOk; omega
 · unfold MixOk; omega
theorem gcd_less (A B q : Int) : Int.gcd B (A - q * B) = Int.gcd A B := by
 rw [Int.gcd_comm A B, Int.sub_eq_add_neg, ← Int.neg_mul, Int.add_comm]
 exact Int.gcd_mul_right_add_right ..
theorem SInv.near {x0 y0 a b S fa fb sa sb x y : Int} (h : SInv x0 y0 a b fa fb sa sb x y) (hh : Heads x0 y0 a b S) : 0 ≤ sa * a + sb * b ∧ (y + sa < x + fa → y + sb < x + fb → sa * a + sb * b < fa * a + fb * b) := by
 obtain ⟨p, hp⟩ : ∃ p, p = a - x0 * S := ⟨_, rfl⟩
 obtain ⟨r, hr⟩ : ∃ r, r = b - y0 * S := ⟨_, rfl⟩
 have h1 := hh.a1; have h2 := hh.a2; have h3 := hh.b1; have h4 := hh.b2
 rw [Int.add_mul, Int.one_mul] at h2 h4
 have p0 : 0 ≤ p := by omega
 have pS : p ≤ S := by omega
 have r0 : 0 ≤ r := by omega
 have rS : r ≤ S := by omega
 have ea : a = x0 * S + p := by omega
 have eb : b = y0 * S + r := by omega
 have eA : fa * a + fb * b = x * S + fa * p + fb * r := by rw [ea, eb, h.ex]; grind
 have eB : sa * a + sb * b = y * S + sa * p + sb * r := by rw [ea, eb, h.ey]; grind
 rw [eA, eB]
 have hS := hh.s
 have n3 := Int.mul_nonneg h.n3 (Int.le_of_lt hS)
 have n4 := Int.mul_nonneg h.n4 (Int.le_of_lt hS)
 rw [Int.add_mul] at n3 n4
 rcases h.sg with ⟨s1, s2, s3, s4, _⟩ | ⟨s1, s2, s3, s4, _⟩
 · have a1 := Int.mul_nonneg s1 p0
   have a2 := Int.mul_le_mul_of_nonneg_left rS (show 0 ≤ -fb by omega)
   have a3 := Int.mul_le_mul_of_nonneg_left pS (show 0 ≤ -sa by omega)
   have a4 := Int.mul_nonneg (show 0 ≤ -sa by omega) p0
   have a5 := Int.mul_nonneg s4 r0
   have a6 := Int.mul_le_mul_of_nonneg_left rS s4
   rw [Int.neg_mul, Int.neg_mul] at a2 a3
   rw [Int.neg_mul] at a4
   refine ⟨by omega, fun _ l => ?_⟩
   have l2 := Int.mul_lt_mul_of_pos_right l hS
   rw [Int.add_mul, Int.add_mul] at l2
   omega
 · have a1 := Int.mul_nonneg s2 r0
   have a2 := Int.mul_le_mul_of_nonneg_left pS (show 0 ≤ -fa by omega)
   have a3 := Int.mul_le_mul_of_nonneg_left rS (show 0 ≤ -sb by omega)
   have a4 := Int.mul_nonneg (show 0 ≤ -sb by omega) r0
   have a5 := Int.mul_nonneg s3 p0
   have a6 := Int.mul_le_mul_of_nonneg_left pS s3
   rw [Int.neg_mul, Int.neg_mul] at a2 a3
   rw [Int.neg_mul] at a4
   refine ⟨by omega, fun l _ => ?_⟩
   have l2 := Int.mul_lt_mul_of_pos_right l hS
   rw [Int.add_mul, Int.add_mul] at l2
   omega
theorem det_step {fa fb sa sb q : Int} : sa * (fb - q * sb) - sb * (fa - q * sa) = -(fa * sb - fb * sa) := by grind
theorem SInv.step {x0 y0 a b S fa fb sa sb x y q : Int} (h : SInv x0 y0 a b fa fb sa sb x y) (hh : Heads x0 y0 a b S) (h1 : y + sa ≠ 0) (h2 : y + sb ≠ 0) (hq : q = (x + fa) / (y + sa)) (hq2 : q = (x + fb) / (y + sb)) :
 SInv x0 y0 a b sa sb (fa - q * sa) (fb - q * sb) y (x - q * y) ∧ x - q * y < y ∧ 0 ≤ q := by
 have p1 : 0 < y + sa := by have := h.n3; omega
 have p2 : 0 < y + sb := by have := h.n4; omega
 have q0 : 0 ≤ q := by rw [hq]; exact Int.ediv_nonneg h.n1 (Int.le_of_lt p1)
 have d1 := Int.emod_add_mul_ediv (x + fa) (y + sa)
 have d2 := Int.emod_nonneg (x + fa) (show y + sa ≠ 0 by omega)
 have d3 := Int.emod_lt_of_pos (x + fa) p1
 have d4 := Int.emod_add_mul_ediv (x + fb) (y + sb)
 have d5 := Int.emod_nonneg (x + fb) (show y + sb ≠ 0 by omega)
 have d6 := Int.emod_lt_of_pos (x + fb) p2
 rw [← hq] at d1
 rw [← hq2] at d4
 generalize (x + fa) % (y + sa) = ra at *
 generalize (x + fb) % (y + sb) = rb at *
 clear hq hq2
 have r1 : (x - q * y) + (fa - q * sa) = ra := by grind
 have r2 : (x - q * y) + (fb - q * sb) = rb := by grind
 have hx : x - q * y = (fa - q * sa) * x0 + (fb - q * sb) * y0 := by rw [h.ex, h.ey]; grind
 have hg : Int.gcd (sa * a + sb * b) ((fa - q * sa) * a + (fb - q * sb) * b) = Int.gcd a b := by
  rw [← h.g, ← gcd_less (fa * a + fb * b) (sa * a + sb * b) q]
  congr 1
  grind
 have hBb : sa * a + sb * b ≤ b := by
  rcases h.st with ⟨e1, e2, e3, e4⟩ | ⟨e1, e2, e3⟩
  · subst e3 e4; omega
  · have := (h.near hh).2 e1 e2; omega
 have hdet := @det_step fa fb sa sb q
 obtain ⟨ta, hta⟩ : ∃ t, t = fa - q * sa := ⟨_, rfl⟩
 obtain ⟨tb, htb⟩ : ∃ t, t = fb - q * sb := ⟨_, rfl⟩
 obtain ⟨z, hz⟩ : ∃ t, t = x - q * y := ⟨_, rfl⟩
 rw [← hta] at r1 hx hg hdet ⊢
 rw [← htb] at r2 hx hg hdet ⊢
 rw [← hz] at r1 r2 hx ⊢
 have hx62 := hh.x62
 have hyx := hh.yx
 have hxb := h.xb
 have hyx2 := h.yx
 have m2 := h.m2
 rcases h.sg with ⟨s1, s2, s3, s4, s5⟩ | ⟨s1, s2, s3, s4, s5⟩
 · have i1 : y * (-tb) + z * sb = x0 := by rw [h.ey, hx]; grind
   have i2 : y * ta + z * (-sa) = y0 := by rw [h.ey, hx]; grind
   obtain ⟨k1, k2, k3, k4, k5, k6⟩ := head_half s1 s2 s3 s4 q0 hta htb (by omega) (by omega) i1 i2 hx62 (by omega)
   refine ⟨⟨h.ey, hx, h.n3, h.n4, by omega, by omega, .inr ⟨s3, s4, k1, k2, by omega⟩, m2, ?_, hg, .inr ⟨by omega, by omega, hBb⟩, k3, by omega, by omega⟩, k4, q0⟩
   unfold MixOk; omega
 · have i1 : y * (-ta) + z * sa = y0 := by rw [h.ey, hx]; grind
   have i2 : y * tb + z * (-sb) = x0 := by rw [h.ey, hx]; grind
   obtain ⟨k1, k2, k3, k4, k5, k6⟩ := head_half s2 s1 s4 s3 q0 htb hta (by omega) (by omega) i1 i2 (by omega) hx62
   refine ⟨⟨h.ey, hx, h.n3, h.n4, by omega, by omega, .inl ⟨s3, s4, k2, k1, by omega⟩, m2, ?_, hg, .inr ⟨by omega, by omega, hBb⟩, k3, by omega, by omega⟩, k4, q0⟩
   unfold MixOk; omega
def SEnd (a b fa fb sa sb : Int) : Prop := fb ≠ 0 → 0 ≤ sa * a + sb * b ∧ sa * a + sb * b < fa * a + fb * b ∧ fa * a + fb * b ≤ b ∧ Int.gcd (fa * a + fb * b) (sa * a + sb * b) = Int.gcd a b ∧ MixOk fa fb ∧ MixOk sa sb
theorem SInv.done {x0 y0 a b S fa fb sa sb x y : Int} (h : SInv x0 y0 a b fa fb sa sb x y) (hh : Heads x0 y0 a b S) : SEnd a b fa fb sa sb := by
 intro hfb
 rcases h.st with ⟨e1, e2, e3, e4⟩ | ⟨e1, e2, e3⟩
 · exact absurd e2 hfb
 · obtain ⟨n1, n2⟩ := h.near hh
   exact ⟨n1, n2 e1 e2, e3, h.g, h.m1, h.m2⟩
end Go.Proofs.YtjikaojffgjndaaGreatDoor.Limb

/- What package quo's sure answers, as a contract over memory: two multiples of both heads, as far as these make the quotients certain. Conditions: the heads are those of two numbers, below 2^62, the second one not above the first. -/
namespace Go.Proofs.YtjikaojffgjndaaGreatDoor
open Go.RowKit Limb
set_option linter.unusedVariables false
def Pair (w : World) (g : Nat) (u v : Int) : Prop := w.heap[g]? = some (.cells #[Value.int .i64 u, Value.int .i64 v] 158 (0, 0))
theorem Pair.lt {w : World} {g : Nat} {u v : Int} (h : Pair w g u v) : g < w.heap.size := by
 rcases Nat.lt_or_ge g w.heap.size with hlt | hge
 · exact hlt
 · unfold Pair at h; rw [Array.getElem?_eq_none hge] at h; cases h
theorem Pair.below {w w' : World} {g : Nat} {u v : Int} (h : Pair w g u v) (hb : Below w.heap.size w w') : Pair w' g u v := (hb.block g h.lt).trans h
theorem Pair.c0 {w : World} {g : Nat} {u v : Int} (h : Pair w g u v) : w.cell? ⟨g, 0, none⟩ = some (.int .i64 u) := by unfold Pair at h; simp [World.cell?, h]
theorem Pair.c1 {w : World} {g : Nat} {u v : Int} (h : Pair w g u v) : w.cell? ⟨g, 1, none⟩ = some (.int .i64 v) := by unfold Pair at h; simp [World.cell?, h]
theorem Pair.f0 {w : World} {g : Nat} {u v : Int} (h : Pair w g u v) (k : Nat) : w.frozen? ⟨g, k, none⟩ = false := by unfold Pair at h; simp [World.frozen?, h]
theorem Pair.put {w : World} {g : Nat} {u v : Int} (h : Pair w g u v) (u' v' : Int) : Pair ((w.setCell ⟨g, 0, none⟩ (.int .i64 u')).setCell ⟨g, 1, none⟩ (.int .i64 v')) g u' v' := by
 unfold Pair at h ⊢
 simp [World.setCell, Array.getElem?_modify, h]
theorem Pair.other {w : World} {g k : Nat} {u v : Int} (h : Pair w g u v) (hk : k ≠ g) (x y : Value) : Pair ((w.setCell ⟨k, 0, none⟩ x).setCell ⟨k, 1, none⟩ y) g u v := by
 unfold Pair at h ⊢
 simp [World.setCell, Array.getElem?_modify, h, hk]
theorem pair_new (w : World) (u v : Int) : Pair (w.alloc (.cells #[Value.int .i64 u, Value.int .i64 v] 158)) w.heap.size u v := heap_alloc_new _ _
theorem mix_size : (Tryz.prog.info? 158).map (·.size) = some 2 := by kernel_rfl
theorem results_two {P : Program} {fn : Func} {p q : Tmp} {ty : TypeId} (h : fn.results = #[.cell p ty, .cell q ty]) (tmps : Array Value) (w : World) (g k : Nat) (t : TypeId) (cs ds : Array Value) (fr : Nat × Nat) (d : TypeDesc)
 (hp : tmps.getD p undef = .pointer (some ⟨g, 0, none⟩)) (hq : tmps.getD q undef = .pointer (some ⟨k, 0, none⟩)) (hg : w.heap[g]? = some (.cells cs t fr)) (hk : w.heap[k]? = some (.cells ds t fr))
 (hu : P.underlying ty = some d) (hd : (match d with | .struct _ | .array _ _ => true | _ => false) = true) (hi : (P.info? ty).map (·.size) = some cs.size) (hj : (P.info? ty).map (·.size) = some ds.size) :
 (results fn tmps).run P w = .ok (.tuple #[.agg cs, .agg ds]) w := by
 have hp' : tmps[p]?.getD undef = .pointer (some ⟨g, 0, none⟩) := by simpa using hp
 have hq' : tmps[q]?.getD undef = .pointer (some ⟨k, 0, none⟩) := by simpa using hq
 simp [results, h, hp', hq', asAddr, run_loadVar_row w g t ty cs fr d hg hu hd hi, run_loadVar_row w k t ty ds fr d hk hu hd hj]
theorem below_put2 {w wr : World} {g : Nat} (h : Below w.heap.size w wr) (hg : w.heap.size ≤ g) (u v : Value) : Below w.heap.size w ((wr.setCell ⟨g, 0, none⟩ u).setCell ⟨g, 1, none⟩ v) :=
 (h.setCell (by exact hg) _).setCell (by exact hg) _
set_option maxHeartbeats 1000000 in
theorem sure_any (x0 y0 a b S : Int) (hh : Heads x0 y0 a b S) (w : World) :
 Calls Tryz.prog 153 #[.int .i64 x0, .int .i64 y0] w fun e w' => ∃ fa fb sa sb : Int, e = .returned (.tuple #[.agg #[.int .i64 fa, .int .i64 fb], .agg #[.int .i64 sa, .int .i64 sb]]) ∧ SEnd a b fa fb sa sb ∧ Below w.heap.size w w' := by
 have h0 := SInv.start hh
 have H0 := Lib.hid h0
 have Hh := Lib.hid hh
 have P4 : RowKit.Hid (Pair ((w.alloc (.cells #[Value.int .i64 1, Value.int .i64 0] 158)).alloc (.cells #[Value.int .i64 0, Value.int .i64 1] 158)) w.heap.size 1 0) := (pair_new w 1 0).below (below_new _ _)
 have P5 : RowKit.Hid (Pair ((w.alloc (.cells #[Value.int .i64 1, Value.int .i64 0] 158)).alloc (.cells #[Value.int .i64 0, Value.int .i64 1] 158)) (w.heap.size + 1) 0 1) := by
  have h := pair_new (w.alloc (.cells #[Value.int .i64 1, Value.int .i64 0] 158)) 0 1
  have e : (w.alloc (.cells #[Value.int .i64 1, Value.int .i64 0] 158)).heap.size = w.heap.size + 1 := by simp
  rw [e] at h
  exact h
 have HB := Lib.hid (below_two (below_new w (.cells #[Value.int .i64 1, Value.int .i64 0] 158)) (below_new _ (.cells #[Value.int .i64 0, Value.int .i64 1] 158)))
 clear hh h0
 go_enter Tryz.func153, Tryz.ntmps153
 go_wp2
 go_loopw [0, 1] (fun xv yv wr => ∃ fa fb sa sb x y : Int, xv = .int .i64 x ∧ yv = .int .i64 y ∧ RowKit.Hid (SInv x0 y0 a b fa fb sa sb x y) ∧ RowKit.Hid (Pair wr w.heap.size fa fb) ∧ RowKit.Hid (Pair wr (w.heap.size + 1) sa sb) ∧ RowKit.Hid (Below w.heap.size w wr)) (fun _ yv _ => (intOf yv).toNat)
 case atStart => exact ⟨1, 0, 0, 1, x0, y0, rfl, rfl, H0, P4, P5, HB⟩
 case round =>
  clear H0 P4 P5 HB
  obtain ⟨fa, fb, sa, sb, x, y, rfl, rfl, Hi, P4, P5, HB⟩ := hrel
  obtain ⟨f1, f2, f3, f4, _⟩ := Hi.out.m1
  obtain ⟨s1, s2, s3, s4, _⟩ := Hi.out.m2
  have yp := Hi.out.yp
  have xb := Hi.out.xb
  have yx := Hi.out.yx
  have n1 := Hi.out.n1
  have n2 := Hi.out.n2
  have n3 := Hi.out.n3
  have n4 := Hi.out.n4
  have c40 := P4.out.c0
  have c41 := P4.out.c1
  have c50 := P5.out.c0
  have c51 := P5.out.c1
  by_cases hgo : y + sa ≠ 0 ∧ y + sb ≠ 0 ∧ (x + fa) / (y + sa) = (x + fb) / (y + sb)
  · obtain ⟨g1, g2, g3⟩ := hgo
    obtain ⟨q, hq⟩ : ∃ q, q = (x + fa) / (y + sa) := ⟨_, rfl⟩
    obtain ⟨hst, hlt, q0⟩ := Hi.out.step Hh.out g1 g2 hq (hq.trans g3)
    have d1 : ((y + sa) != 0) = true := by simpa using g1
    have d2 : ((y + sb) != 0) = true := by simpa using g2
    have d3 : ((y + sa) == 0) = false := by simpa using g1
    have d4 : ((y + sb) == 0) = false := by simpa using g2
    have eq1 : (x + fa) / (y + sa) = q := hq.symm
    have eq2 : (x + fb) / (y + sb) = q := by rw [← g3]; exact hq.symm
    obtain ⟨qa, hqa⟩ : ∃ t, t = q * sa := ⟨_, rfl⟩
    obtain ⟨qb, hqb⟩ : ∃ t, t = q * sb := ⟨_, rfl⟩
    obtain ⟨qy, hqy⟩ : ∃ t, t = q * y := ⟨_, rfl⟩
    rw [← hqa, ← hqb, ← hqy] at hst
    rw [← hqy] at hlt
    obtain ⟨t1, t2, t3, t4, _⟩ := hst.m2
    have z0 := hst.yp
    have p1 : 0 < y + sa := by omega
    have p2 : 0 < y + sb := by omega
    have q62 : q ≤ 4611686020574871552 := by
     rw [hq]
     exact Int.le_trans (Int.ediv_le_self _ n1) (by omega)
    have k1 : RowKit.wrap64 ((x + fa).tdiv (y + sa)) = q := by rw [Int.tdiv_eq_ediv_of_nonneg n1, eq1]; exact IntWalk.wrap64_in _ (by omega)
    have k2 : RowKit.wrap64 ((x + fb).tdiv (y + sb)) = q := by rw [Int.tdiv_eq_ediv_of_nonneg n2, eq2]; exact IntWalk.wrap64_in _ (by omega)
    have k3 : RowKit.wrap64 (q * y) = qy := by rw [← hqy]; exact IntWalk.wrap64_in _ (by omega)
    have w1' : IntKind.i64.wrap (q * sa) = qa := by rw [← hqa]; exact IntWalk.i64_in _ (by omega)
    have w2' : IntKind.i64.wrap (q * sb) = qb := by rw [← hqb]; exact IntWalk.i64_in _ (by omega)
    have w3' : IntKind.i64.wrap (fa - qa) = fa - qa := IntWalk.i64_in _ (by omega)
    have w4' : IntKind.i64.wrap (fb - qb) = fb - qb := IntWalk.i64_in _ (by omega)
    have Hst := Lib.hid hst
    clear hst hq g1 g2 g3 hqa hqb hqy Hi
    go_wp2
    rw [eq1, eq2]
    clear eq1 eq2 k1 k2
    have r40 : wr.drew.cell? ⟨w.heap.size, 0, none⟩ = some (.int .i64 fa) := c40
    have r41 : wr.drew.cell? ⟨w.heap.size, 1, none⟩ = some (.int .i64 fb) := c41
    have r50 : wr.drew.cell? ⟨w.heap.size + 1, 0, none⟩ = some (.int .i64 sa) := c50
    have r51 : wr.drew.cell? ⟨w.heap.size + 1, 1, none⟩ = some (.int .i64 sb) := c51
    have z40 := P4.out.f0 0
    have z41 := P4.out.f0 1
    have z50 := P5.out.f0 0
    have z51 := P5.out.f0 1
    go_region
    have Q4 := Lib.hid ((P4.out.put sa sb).other (k := w.heap.size + 1) (by omega) (.int .i64 (fa - qa)) (.int .i64 (fb - qb)))
    have Q5 := Lib.hid ((P5.out.other (k := w.heap.size) (by omega) (.int .i64 sa) (.int .i64 sb)).put (fa - qa) (fb - qb))
    have QB := Lib.hid (below_put2 (below_put2 HB.out (Nat.le_refl _) (.int .i64 sa) (.int .i64 sb)) (Nat.le_succ _) (.int .i64 (fa - qa)) (.int .i64 (fb - qb)))
    clear r40 r41 r50 r51 z40 z41 z50 z51 c40 c41 c50 c51 P4 P5 HB w1' w2' w3' w4' d1 d2 d3 d4
    generalize ((wr.setCell ⟨w.heap.size, 0, none⟩ (.int .i64 sa)).setCell ⟨w.heap.size, 1, none⟩ (.int .i64 sb)).setCell ⟨w.heap.size + 1, 0, none⟩ (.int .i64 (fa - qa)) = w5 at *
    generalize w5.setCell ⟨w.heap.size + 1, 1, none⟩ (.int .i64 (fb - qb)) = w6 at *
    have R4 : RowKit.Hid (Pair w6.drew w.heap.size sa sb) := Q4.out
    have R5 : RowKit.Hid (Pair w6.drew (w.heap.size + 1) (fa - qa) (fb - qb)) := Q5.out
    have RB : RowKit.Hid (Below w.heap.size w w6.drew) := QB.out.drew
    clear Q4 Q5 QB
    go_wp2
    go_roundw
    case rel => exact ⟨sa, sb, fa - qa, fb - qb, y, x - qy, rfl, rfl, Hst, R4, R5, RB⟩
    case measure => simp [intOf]; omega
  · have Hend := Lib.hid (Hi.out.done Hh.out)
    have z40 := P4.out.f0 0
    have z41 := P4.out.f0 1
    have z50 := P5.out.f0 0
    have z51 := P5.out.f0 1
    have r40 : wr.drew.cell? ⟨w.heap.size, 0, none⟩ = some (.int .i64 fa) := c40
    have r41 : wr.drew.cell? ⟨w.heap.size, 1, none⟩ = some (.int .i64 fb) := c41
    have r50 : wr.drew.cell? ⟨w.heap.size + 1, 0, none⟩ = some (.int .i64 sa) := c50
    have r51 : wr.drew.cell? ⟨w.heap.size + 1, 1, none⟩ = some (.int .i64 sb) := c51
    by_cases g1 : y + sa = 0
    case' pos =>
     have hz : y + sa ≤ 0 := by omega
    case' neg =>
     by_cases g2 : y + sb = 0
     case' pos =>
      have hz : 0 < y + sa := by omega
     case' neg =>
      have p1 : 0 < y + sa := by omega
      have p2 : 0 < y + sb := by omega
      have hz : (x + fa) / (y + sa) ≠ (x + fb) / (y + sb) := fun h => hgo ⟨g1, g2, h⟩
    all_goals
     clear hgo Hi
     go_wp2
    all_goals
     go_region
     have Q4 := Lib.hid ((P4.out.put fa fb).other (k := w.heap.size + 1) (by omega) (.int .i64 sa) (.int .i64 sb))
     have Q5 := Lib.hid ((P5.out.other (k := w.heap.size) (by omega) (.int .i64 fa) (.int .i64 fb)).put sa sb)
     have QB := Lib.hid (below_put2 (below_put2 HB.out (Nat.le_refl _) (.int .i64 fa) (.int .i64 fb)) (Nat.le_succ _) (.int .i64 sa) (.int .i64 sb))
     go_wp2
     refine bodyPost_ret (results_two rfl _ _ w.heap.size (w.heap.size + 1) 158 #[Value.int .i64 fa, Value.int .i64 fb] #[Value.int .i64 sa, Value.int .i64 sb] (0, 0) _ rfl rfl Q4.out Q5.out Tryz.underlying158 rfl mix_size mix_size) rfl ?_
     exact ⟨fa, fb, sa, sb, rfl, Hend.out, QB.out.drew⟩
end Go.Proofs.YtjikaojffgjndaaGreatDoor

/- What package quo's nearer answers, as a contract over memory: two numbers further on in the divisions of two numbers by each other: the same greatest divisor, the second one less than it was. Conditions: both lists are the shortest ones, of at most 10^5 limbs; the first number has more than two limbs, the second one is not 0 and not above it. -/
namespace Go.Proofs.YtjikaojffgjndaaGreatDoor.Limb
theorem gcd_cast {a b x y : Nat} (h : Int.gcd (x : Int) (y : Int) = Int.gcd (a : Int) (b : Int)) : gcdN x y = gcdN a b := by
 unfold gcdN; simpa [Int.gcd_natCast_natCast] using h
theorem heads_of {a b k : Nat} (hk : k + 62 = blen a) (hba : b ≤ a) : Heads ((a / 2 ^ k : Nat) : Int) ((b / 2 ^ k : Nat) : Int) (a : Int) (b : Int) ((2 ^ k : Nat) : Int) := by
 have hS : 0 < 2 ^ k := Nat.two_pow_pos k
 have h1 := Nat.div_mul_le_self a (2 ^ k)
 have h2 := Nat.lt_mul_div_succ a hS
 have h3 := Nat.div_mul_le_self b (2 ^ k)
 have h4 := Nat.lt_mul_div_succ b hS
 have h5 : a / 2 ^ k < 4611686018427387904 := by
  rw [Nat.div_lt_iff_lt_mul hS]
  have := blen_lt a
  rw [← hk, Nat.add_comm, Nat.pow_add] at this
  exact this
 have h6 : b / 2 ^ k ≤ a / 2 ^ k := Nat.div_le_div_right hba
 rw [Nat.mul_comm] at h2 h4
 generalize a / 2 ^ k = x at *
 generalize b / 2 ^ k = y at *
 generalize 2 ^ k = S at *
 refine ⟨by omega, ?_, ?_, ?_, ?_, by omega, by omega, by omega, by omega⟩
 · have : ((x * S : Nat) : Int) ≤ (a : Int) := by omega
   simpa using this
 · have : (a : Int) < (((x + 1) * S : Nat) : Int) := by omega
   simpa using this
 · have : ((y * S : Nat) : Int) ≤ (b : Int) := by omega
   simpa using this
 · have : (b : Int) < (((y + 1) * S : Nat) : Int) := by omega
   simpa using this
theorem head_small {a b k : Nat} (hk : k + 62 = blen a) (hba : b ≤ a) : b / 2 ^ k % 18446744073709551616 = b / 2 ^ k := by
 have h5 : b / 2 ^ k < 4611686018427387904 := by
  rw [Nat.div_lt_iff_lt_mul (Nat.two_pow_pos k)]
  have := blen_lt a
  rw [← hk, Nat.add_comm, Nat.pow_add] at this
  exact Nat.lt_of_le_of_lt hba this
 exact Nat.mod_eq_of_lt (by omega)
theorem blen_long {a : Nat} (h : 2 < (limbs a).length) : 65 ≤ blen a := by
 have h0 : a ≠ 0 := by intro e; rw [e, limbs_zero] at h; simp at h
 have h1 := length_limbs_pred h0
 have h2 : 4294967296 ^ 2 ≤ 4294967296 ^ ((limbs a).length - 1) := Nat.pow_le_pow_right (by decide) (by omega)
 have h3 := blen_lt a
 have h4 : 2 ^ 64 < 2 ^ blen a := Nat.lt_of_le_of_lt (Nat.le_trans (by decide) (Nat.le_trans h2 h1)) h3
 have := (Nat.pow_lt_pow_iff_right (by decide)).1 h4
 omega
end Go.Proofs.YtjikaojffgjndaaGreatDoor.Limb
namespace Go.Proofs.YtjikaojffgjndaaGreatDoor
open Go.RowKit Limb
set_option linter.unusedVariables false
theorem of_c2 (P Q : Int) {A A' : Option Addr} {n c n' c' a b L L' : Nat} {w : World} (hx : NN w A n c (limbs a) a L) (hy : NN w A' n' c' (limbs b) b L') (h1 : L ≤ 100000) (hba : b ≤ a) (hPQ : MixOk P Q) (v : Nat) (hv : P * (a : Int) + Q * (b : Int) = (v : Int)) (hva : v ≤ a) :
 Calls Tryz.prog 154 #[.agg #[.int .i64 P, .int .i64 Q], .slice A n c, .slice A' n' c'] w fun e w' => ∃ A2 n2 c2, e = .returned (.slice A2 n2 c2) ∧ NN w' A2 n2 c2 (limbs v) v L ∧ Below w.heap.size w w' := by
 have hn : n' ≤ n := by rw [← hx.isN.len, ← hy.isN.len]; exact length_limbs_mono hba
 have hv2 : v < 4294967296 ^ n := by
  have h := val_lt hx.isN.small
  rw [hx.val, hx.isN.len] at h
  omega
 refine (of_mix P Q A n c (limbs a) A' n' c' (limbs b) w hx.isN hy.isN (by have := hx.le; omega) hn hPQ v (by rw [val_limbs, val_limbs]; exact hv) hv2).mono ?_
 rintro e w' ⟨A2, n2, c2, rfl, how, hb⟩
 exact ⟨A2, n2, c2, rfl, NN.own how (Nat.lt_of_le_of_lt hva (lt_pow hx)), hb⟩
set_option maxHeartbeats 1000000 in
theorem nearer_c {A A' : Option Addr} {n c n' c' a b L : Nat} {w : World} (hx : NN w A n c (limbs a) a L) (hy : NN w A' n' c' (limbs b) b L) (h1 : L ≤ 100000) (h3 : 2 < n) (hb : b ≠ 0) (hba : b ≤ a) :
 Calls Tryz.prog 131 #[.slice A n c, .slice A' n' c'] w fun e w' => ∃ x y A1 n1 c1 A2 n2 c2, e = .returned (.tuple #[.slice A1 n1 c1, .slice A2 n2 c2]) ∧ NN w' A1 n1 c1 (limbs x) x L ∧ NN w' A2 n2 c2 (limbs y) y L ∧
  RowKit.Hid (y < b ∧ y ≤ x ∧ gcdN x y = gcdN a b) ∧ Below w.heap.size w w' := by
 have hbl : 65 ≤ blen a := blen_long (by rw [hx.isN.len]; exact h3)
 have hb32 := blen_NN hx
 obtain ⟨k, hk⟩ : ∃ k, k + 62 = blen a := ⟨blen a - 62, by omega⟩
 have hH := heads_of hk hba
 have hs1 := head_small hk (Nat.le_refl a)
 have hs2 := head_small hk hba
 obtain ⟨x0, hx0⟩ : ∃ x, x = a / 2 ^ k := ⟨_, rfl⟩
 obtain ⟨y0, hy0⟩ : ∃ x, x = b / 2 ^ k := ⟨_, rfl⟩
 rw [← hx0] at hH
 rw [← hy0] at hH
 replace hs1 := hs1.trans hx0.symm
 replace hs2 := hs2.trans hy0.symm
 have x62 : x0 < 4611686018427387904 := by have := hH.x62; omega
 have y62 : y0 < 4611686018427387904 := by have := hH.yx; omega
 obtain ⟨l, hl⟩ : ∃ l, l = blen a := ⟨_, rfl⟩
 have hlk : (l : Int) - 62 = (k : Int) := by omega
 have hkk : k ≤ 3200000 := by omega
 have Hl := Lib.hid hl.symm
 have HH := Lib.hid hH
 have Hs1 := Lib.hid hs1
 have Hs2 := Lib.hid hs2
 have Hb0 := Lib.hid hb
 have Hba := Lib.hid hba
 have hle1 := hx.le
 have hle2 := hy.le
 clear hk hH hs1 hs2 hx0 hy0 hl hbl hb hba hb32
 go_enter Tryz.func131, Tryz.ntmps131
 go_wp2_with fail
 refine (bits_c hx (by omega) (l : Int) (by rw [Hl.out])).mono ?_
 rintro e w1 ⟨rfl, rfl⟩
 go_wp2_with fail
 refine (head_any A n c (limbs a) w hx.isN (by omega) k _ (by omega) (by omega) x0 (by rw [val_limbs]; exact Hs1.out)).mono ?_
 rintro e w1 ⟨rfl, nd, rfl⟩
 have bn := below_drewN (Below.refl w.heap.size w) nd
 have hx1 := hx.below bn
 have hy1 := hy.below bn
 have bw := bn
 clear bn hx hy
 generalize w.drewN nd = w1 at *
 go_wp2_with fail
 refine (head_any A' n' c' (limbs b) w1 hy1.isN (by omega) k _ (by omega) (by omega) y0 (by rw [val_limbs]; exact Hs2.out)).mono ?_
 rintro e w2 ⟨rfl, nd, rfl⟩
 have bn := below_drewN (Below.refl w1.heap.size w1) nd
 have hx2 := hx1.below bn
 have hy2 := hy1.below bn
 replace bw := below_two bw bn
 clear bn hx1 hy1
 generalize w1.drewN nd = w2 at *
 go_wp2_with fail
 refine (sure_any (x0 : Int) (y0 : Int) (a : Int) (b : Int) _ HH.out w2).mono ?_
 rintro e w3 ⟨fa, fb, sa, sb, rfl, hE, bn⟩
 have HE := Lib.hid hE
 have hx3 := hx2.below bn
 have hy3 := hy2.below bn
 replace bw := below_two bw bn
 clear hE bn hx2 hy2
 have P7 : RowKit.Hid (Pair ((w3.alloc (.cells #[Value.int .i64 fa, Value.int .i64 fb] 158)).alloc (.cells #[Value.int .i64 sa, Value.int .i64 sb] 158)) w3.heap.size fa fb) := (pair_new w3 fa fb).below (below_new _ _)
 have P8 : RowKit.Hid (Pair ((w3.alloc (.cells #[Value.int .i64 fa, Value.int .i64 fb] 158)).alloc (.cells #[Value.int .i64 sa, Value.int .i64 sb] 158)) (w3.heap.size + 1) sa sb) := by
  have h := pair_new (w3.alloc (.cells #[Value.int .i64 fa, Value.int .i64 fb] 158)) sa sb
  have e : (w3.alloc (.cells #[Value.int .i64 fa, Value.int .i64 fb] 158)).heap.size = w3.heap.size + 1 := by simp
  rw [e] at h
  exact h
 have bn := below_two (below_new w3 (.cells #[Value.int .i64 fa, Value.int .i64 fb] 158)) (below_new _ (.cells #[Value.int .i64 sa, Value.int .i64 sb] 158))
 have hx4 := hx3.below bn
 have hy4 := hy3.below bn
 replace bw := below_two bw bn
 clear bn hx3 hy3
 by_cases hfb : fb = 0
 · subst hfb
   have c71 := P7.out.c1
   clear P7 P8
   go_wp2_with fail
   refine (quoRem_yes hx4 hy4 h1 h1 Hb0.out).mono ?_
   rintro e w5 ⟨A5, n5, c5, A6, n6, c6, rfl, hq, hr, bn⟩
   have HX := Lib.hid (hy4.below bn)
   have HY := Lib.hid hr
   have HW := Lib.hid (below_two bw bn)
   have HP : RowKit.Hid (a % b < b ∧ a % b ≤ b ∧ gcdN b (a % b) = gcdN a b) := ⟨Nat.mod_lt _ (Nat.pos_of_ne_zero Hb0.out), Nat.le_of_lt (Nat.mod_lt _ (Nat.pos_of_ne_zero Hb0.out)), gcdN_step rfl⟩
   clear hq hr bn bw hx4 hy4 c71
   go_wp2
   go_ret2
   exact ⟨b, a % b, _, _, _, _, _, _, rfl, HX.out, HY.out, HP, HW.out⟩
 · have hf1 : (fb != 0) = true := by simp [hfb]
   obtain ⟨v1, v2, v3, v4, v5, v6⟩ := HE.out hfb
   obtain ⟨x, hx⟩ := Int.eq_ofNat_of_zero_le (show 0 ≤ fa * (a : Int) + fb * (b : Int) by omega)
   obtain ⟨y, hy⟩ := Int.eq_ofNat_of_zero_le v1
   rw [hx, hy] at v4
   have HP : RowKit.Hid (y < b ∧ y ≤ x ∧ gcdN x y = gcdN a b) := ⟨by omega, by omega, gcd_cast v4⟩
   have hxa : x ≤ a := by have := Hba.out; omega
   have hya : y ≤ a := by have := Hba.out; omega
   have c70 := P7.out.c0
   have c71 := P7.out.c1
   have c80 := P8.out.c0
   have c81 := P8.out.c1
   have l7 := P7.out.lt
   have l8 := P8.out.lt
   have Hx := Lib.hid hx
   have Hy := Lib.hid hy
   have HX4 := Lib.hid hx4
   have HY4 := Lib.hid hy4
   have HW4 := Lib.hid bw
   clear hx hy v1 v2 v3 v4 P7 P8 HE hx4 hy4 bw
   go_wp2
   generalize (w3.alloc (.cells #[Value.int .i64 fa, Value.int .i64 fb] 158)).alloc (.cells #[Value.int .i64 sa, Value.int .i64 sb] 158) = w4 at *
   obtain ⟨g7, hg7⟩ : ∃ g, g = w3.heap.size := ⟨_, rfl⟩
   rw [← hg7] at c70 c71 c80 c81 l7 l8 ⊢
   clear hg7
   have Hc : RowKit.Hid (∀ wx, Below w4.heap.size w4 wx → wx.cell? ⟨g7, 0, none⟩ = some (.int .i64 fa) ∧ wx.cell? ⟨g7, 1, none⟩ = some (.int .i64 fb) ∧ wx.cell? ⟨g7 + 1, 0, none⟩ = some (.int .i64 sa) ∧ wx.cell? ⟨g7 + 1, 1, none⟩ = some (.int .i64 sb)) := fun wx hb =>
    ⟨(hb.cell (p := ⟨g7, 0, none⟩) l7).trans c70, (hb.cell (p := ⟨g7, 1, none⟩) l7).trans c71, (hb.cell (p := ⟨g7 + 1, 0, none⟩) l8).trans c80, (hb.cell (p := ⟨g7 + 1, 1, none⟩) l8).trans c81⟩
   have KA : RowKit.Hid (∀ wx, Below w4.heap.size w4 wx → (wx.cell? ⟨g7, 0, none⟩ = some (.int .i64 fa) ∧ wx.cell? ⟨g7, 1, none⟩ = some (.int .i64 fb) ∧ wx.cell? ⟨g7 + 1, 0, none⟩ = some (.int .i64 sa) ∧ wx.cell? ⟨g7 + 1, 1, none⟩ = some (.int .i64 sb) ∧ Below w4.heap.size w4 wx)) := fun wx hb =>
    ⟨(Hc.out wx hb).1, (Hc.out wx hb).2.1, (Hc.out wx hb).2.2.1, (Hc.out wx hb).2.2.2, hb⟩
   have KS : RowKit.Hid (∀ wx w2, (wx.cell? ⟨g7, 0, none⟩ = some (.int .i64 fa) ∧ wx.cell? ⟨g7, 1, none⟩ = some (.int .i64 fb) ∧ wx.cell? ⟨g7 + 1, 0, none⟩ = some (.int .i64 sa) ∧ wx.cell? ⟨g7 + 1, 1, none⟩ = some (.int .i64 sb) ∧ Below w4.heap.size w4 wx) → Below wx.heap.size wx w2 →
    (w2.cell? ⟨g7, 0, none⟩ = some (.int .i64 fa) ∧ w2.cell? ⟨g7, 1, none⟩ = some (.int .i64 fb) ∧ w2.cell? ⟨g7 + 1, 0, none⟩ = some (.int .i64 sa) ∧ w2.cell? ⟨g7 + 1, 1, none⟩ = some (.int .i64 sb) ∧ Below w4.heap.size w4 w2)) := fun wx w2 hS hb => KA.out w2 (below_two hS.2.2.2.2 hb)
   have K1 : RowKit.Hid (∀ wx, (wx.cell? ⟨g7, 0, none⟩ = some (.int .i64 fa) ∧ wx.cell? ⟨g7, 1, none⟩ = some (.int .i64 fb) ∧ wx.cell? ⟨g7 + 1, 0, none⟩ = some (.int .i64 sa) ∧ wx.cell? ⟨g7 + 1, 1, none⟩ = some (.int .i64 sb) ∧ Below w4.heap.size w4 wx) →
    Calls Tryz.prog 154 #[.agg #[.int .i64 fa, .int .i64 fb], .slice A n c, .slice A' n' c'] wx fun e w' => ∃ A2 n2 c2, e = .returned (.slice A2 n2 c2) ∧ NN w' A2 n2 c2 (limbs x) x L ∧ Below wx.heap.size wx w') := fun wx hS =>
    of_c2 fa fb (HX4.out.below hS.2.2.2.2) (HY4.out.below hS.2.2.2.2) h1 Hba.out v5 x Hx.out hxa
   have K2 : RowKit.Hid (∀ wx, (wx.cell? ⟨g7, 0, none⟩ = some (.int .i64 fa) ∧ wx.cell? ⟨g7, 1, none⟩ = some (.int .i64 fb) ∧ wx.cell? ⟨g7 + 1, 0, none⟩ = some (.int .i64 sa) ∧ wx.cell? ⟨g7 + 1, 1, none⟩ = some (.int .i64 sb) ∧ Below w4.heap.size w4 wx) →
    Calls Tryz.prog 154 #[.agg #[.int .i64 sa, .int .i64 sb], .slice A n c, .slice A' n' c'] wx fun e w' => ∃ A2 n2 c2, e = .returned (.slice A2 n2 c2) ∧ NN w' A2 n2 c2 (limbs y) y L ∧ Below wx.heap.size wx w') := fun wx hS =>
    of_c2 sa sb (HX4.out.below hS.2.2.2.2) (HY4.out.below hS.2.2.2.2) h1 Hba.out v6 y Hy.out hya
   have KF : RowKit.Hid (∀ wx, (wx.cell? ⟨g7, 0, none⟩ = some (.int .i64 fa) ∧ wx.cell? ⟨g7, 1, none⟩ = some (.int .i64 fb) ∧ wx.cell? ⟨g7 + 1, 0, none⟩ = some (.int .i64 sa) ∧ wx.cell? ⟨g7 + 1, 1, none⟩ = some (.int .i64 sb) ∧ Below w4.heap.size w4 wx) → Below w.heap.size w wx) := fun wx hS => below_two HW4.out hS.2.2.2.2
   clear c70 c71 c80 c81 v5 v6 l7 l8 HX4 HY4 HW4 Hc
   go_region_held3 (fun wx => wx.cell? ⟨g7, 0, none⟩ = some (.int .i64 fa) ∧ wx.cell? ⟨g7, 1, none⟩ = some (.int .i64 fb) ∧ wx.cell? ⟨g7 + 1, 0, none⟩ = some (.int .i64 sa) ∧ wx.cell? ⟨g7 + 1, 1, none⟩ = some (.int .i64 sb) ∧ Below w4.heap.size w4 wx) (first | assumption | exact KA.out _ ((Below.refl _ _).drew)) (first
    | (go_at_call 154; (with_reducible refine (K1.out _ (by assumption)).mono ?_); rintro e w2 ⟨A_x, n_x, c_x, rfl, h_x, bn_x⟩; have hS2 := KS.out _ _ (by assumption) bn_x)
    | (go_at_call 154; (with_reducible refine (K2.out _ (by assumption)).mono ?_); rintro e w2 ⟨A_y, n_y, c_y, rfl, h_y, bn_y⟩; have hS2 := KS.out _ _ (by assumption) bn_y))
   all_goals
    have HX := Lib.hid (h_x.below bn_y)
    have HY := Lib.hid h_y
    have HW := Lib.hid (KF.out _ hS2)
    clear h_x h_y bn_x bn_y
    go_wp2
    go_ret2
    exact ⟨x, y, _, _, _, _, _, _, rfl, HX.out, HY.out, HP, HW.out⟩
end Go.Proofs.YtjikaojffgjndaaGreatDoor

/- What package quo's Gcd answers, as a contract over memory: the greatest divisor in common, in its shortest limbs. Conditions: both lists read as limbs, of at most 40000 of them. -/
namespace Go.Proofs.YtjikaojffgjndaaGreatDoor
open Go.RowKit Limb
set_option linter.unusedVariables false
theorem gcdN_comm (a b : Nat) : gcdN a b = gcdN b a := Nat.gcd_comm a b
set_option maxHeartbeats 1000000 in
theorem quoGcd_c {A A' : Option Addr} {n c n' c' : Nat} {xs ys : List Nat} {a b L L' : Nat} {w : World} (hx : NN w A n c xs a L) (hy : NN w A' n' c' ys b L') (h1 : L ≤ 40000) (h2 : L' ≤ 40000) (K : Nat) (hK : gcdN a b < 4294967296 ^ K) :
 Calls Tryz.prog 84 #[.slice A n c, .slice A' n' c'] w fun e w' => ∃ A2 n2 c2, e = .returned (.slice A2 n2 c2) ∧ NN w' A2 n2 c2 (limbs (gcdN a b)) (gcdN a b) K ∧ Below w.heap.size w w' := by
 have r1 := Nat.lt_of_lt_of_le (lt_pow hx) (Nat.pow_le_pow_right (show 0 < 4294967296 by decide) (Nat.le_add_right L L'))
 have r2 := Nat.lt_of_lt_of_le (lt_pow hy) (Nat.pow_le_pow_right (show 0 < 4294967296 by decide) (Nat.le_add_left L' L))
 obtain ⟨g, hg⟩ : ∃ g, gcdN a b = g := ⟨_, rfl⟩
 obtain ⟨M, hM⟩ : ∃ M, M = L + L' := ⟨_, rfl⟩
 have hM2 : M ≤ 80000 := by omega
 rw [← hM] at r1 r2
 rw [hg] at hK ⊢
 have R1 := Lib.hid r1
 have R2 := Lib.hid r2
 have HK := Lib.hid hK
 have Hg := Lib.hid hg
 clear r1 r2 hM hK hg
 go_enter Tryz.func84, Tryz.ntmps84
 go_wp2_with fail
 refine (trim_c hx (by omega)).mono ?_
 rintro e w1 ⟨A1, n1, c1, rfl, hx1, bn⟩
 have hy1 := hy.below bn
 have bw := bn
 clear hx hy bn
 go_wp2_with fail
 refine (trim_c hy1 (by omega)).mono ?_
 rintro e w2 ⟨A2, n2, c2, rfl, hy2, bn⟩
 have hx2 := (hx1.below bn).relax R1.out
 replace hy2 := hy2.relax R2.out
 replace bw := below_two bw bn
 clear bn hx1 hy1 R1 R2
 by_cases hlt : a < b
 case' pos =>
  have Hv := Lib.hid (cmpI_lt hlt)
  have Hr : RowKit.Hid (a ≤ b ∧ gcdN b a = g) := ⟨Nat.le_of_lt hlt, by rw [gcdN_comm]; exact Hg.out⟩
  clear hlt Hg
  go_wp2_with fail
  refine (cmp_c hx2 hy2 (by omega) (by omega) (-1) Hv.out).mono ?_
  rintro e w3 ⟨rfl, bn⟩
  have HX := Lib.hid (hy2.below bn)
  have HY := Lib.hid (hx2.below bn)
 case' neg =>
  obtain ⟨v, hv, hv0⟩ : ∃ v, cmpI a b = v ∧ 0 ≤ v := by
   rcases Nat.lt_trichotomy a b with h | h | h
   · exact absurd h hlt
   · exact ⟨0, by rw [h]; exact cmpI_eq _, by omega⟩
   · exact ⟨1, cmpI_gt h, by omega⟩
  have Hv := Lib.hid hv
  have Hr : RowKit.Hid (b ≤ a ∧ gcdN a b = g) := ⟨Nat.le_of_not_lt hlt, Hg.out⟩
  clear hlt hv Hg
  go_wp2_with fail
  refine (cmp_c hx2 hy2 (by omega) (by omega) v Hv.out).mono ?_
  rintro e w3 ⟨rfl, bn⟩
  have HX := Lib.hid (hx2.below bn)
  have HY := Lib.hid (hy2.below bn)
 all_goals
  have HW := Lib.hid (below_two bw bn)
  clear hx2 hy2 bn bw Hv
  go_wp2
  go_loopw [0, 1] (fun xv yv wr => ∃ (x y : Nat) (A1 : Option Addr) (n1 c1 : Nat) (A2 : Option Addr) (n2 c2 : Nat), xv = .slice A1 n1 c1 ∧ yv = .slice A2 n2 c2 ∧ RowKit.Hid (y ≤ x ∧ gcdN x y = g) ∧ RowKit.Hid (NN wr A1 n1 c1 (limbs x) x M) ∧ RowKit.Hid (NN wr A2 n2 c2 (limbs y) y M) ∧ RowKit.Hid (Below w.heap.size w wr)) (fun _ yv wr => readN wr yv)
  case atStart => exact ⟨_, _, _, _, _, _, _, _, rfl, rfl, Hr, HX, HY, HW⟩
  case round =>
   clear Hr HX HY HW
   obtain ⟨x, y, A1, n1, c1, A2, n2, c2, rfl, rfl, Hr, HX, HY, HW⟩ := hrel
   by_cases h0 : y = 0
   · subst h0
     have hn0 : n2 = 0 := by have := HY.out.isN.len; rw [limbs_zero] at this; exact this.symm
     subst hn0
     have HG := Lib.hid (gcdN_end Hr.out.2)
     go_wp2
     go_ret
     exact ⟨A1, n1, c1, rfl, by rw [← HG.out]; exact HX.out.relax (by rw [HG.out]; exact HK.out), HW.out⟩
   · have hpos : 0 < n2 := by
      have h := HY.out.isN.len
      rw [limbs_pos h0] at h
      simp at h
      omega
     have H0 := Lib.hid h0
     have hx := HX.out
     have hy := HY.out
     clear h0
     by_cases hn : 2 < n1
     · go_wp2_with fail
       refine (nearer_c hx hy (by omega) hn H0.out Hr.out.1).mono ?_
       rintro e w4 ⟨x', y', A3, n3, c3, A4, n4, c4, rfl, h3, h4, Hp, bn⟩
       have HX2 := Lib.hid h3
       have HY2 := Lib.hid h4
       have HW2 := Lib.hid (below_two HW.out bn)
       have HR2 : RowKit.Hid (y' ≤ x' ∧ gcdN x' y' = g) := ⟨Hp.out.2.1, Hp.out.2.2.trans Hr.out.2⟩
       have HM : RowKit.Hid (readN w4 (.slice A4 n4 c4) < readN wr (.slice A2 n2 c2)) := by
        show _ < _
        rw [readN_eq h4.isN, readN_eq hy.isN, val_limbs, val_limbs]
        exact Hp.out.1
       clear hx hy h3 h4 bn HX HY HW Hr Hp
       go_wp2
       go_roundw
       case rel => exact ⟨x', y', A3, n3, c3, A4, n4, c4, rfl, rfl, HR2, HX2, HY2, HW2⟩
       case measure => exact HM.out
     · have hx64 : x < 18446744073709551616 := by
        have h := val_lt hx.isN.small
        rw [hx.val, hx.isN.len] at h
        have h2 : 4294967296 ^ n1 ≤ 4294967296 ^ 2 := Nat.pow_le_pow_right (by decide) (by omega)
        exact Nat.lt_of_lt_of_le h h2
       have hy64 : y < 18446744073709551616 := Nat.lt_of_le_of_lt Hr.out.1 hx64
       have Hx1 : RowKit.Hid (val (limbs x) / 2 ^ 0 % 18446744073709551616 = x) := by show _ = _; rw [val_limbs, Nat.pow_zero, Nat.div_one, Nat.mod_eq_of_lt hx64]
       have Hy1 : RowKit.Hid (val (limbs y) / 2 ^ 0 % 18446744073709551616 = y) := by show _ = _; rw [val_limbs, Nat.pow_zero, Nat.div_one, Nat.mod_eq_of_lt hy64]
       have hg64 : g < 18446744073709551616 := by
        rw [← Hr.out.2]
        exact Nat.lt_of_le_of_lt (Nat.gcd_le_right _ (Nat.pos_of_ne_zero H0.out)) hy64
       have hl1 := hx.le
       have hl2 := hy.le
       have hn2 : n1 ≤ 2 := by omega
       clear HX HY hn
       go_wp2_with fail
       refine (head_any A1 n1 c1 (limbs x) wr hx.isN (by omega) 0 _ rfl (by omega) x Hx1.out).mono ?_
       rintro e w4 ⟨rfl, nd, rfl⟩
       have bn := below_drewN (Below.refl wr.heap.size wr) nd
       have hy3 := hy.below bn
       have bw := below_two HW.out bn
       clear bn hx hy
       generalize wr.drewN nd = w4 at *
       go_wp2_with fail
       refine (head_any A2 n2 c2 (limbs y) w4 hy3.isN (by omega) 0 _ rfl (by omega) y Hy1.out).mono ?_
       rintro e w5 ⟨rfl, nd, rfl⟩
       have bn := below_drewN (Below.refl w4.heap.size w4) nd
       replace bw := below_two bw bn
       clear bn hy3
       generalize w4.drewN nd = w5 at *
       go_wp2_with fail
       refine (gcdSmall_any x y _ _ rfl rfl w5 hx64 hy64 g Hr.out.2).mono ?_
       rintro e w6 ⟨rfl, bn⟩
       replace bw := below_two bw bn
       clear bn
       go_wp2_with fail
       refine (of_c g _ rfl hg64 w6).mono ?_
       rintro e w7 ⟨A7, n7, c7, rfl, ho, bn⟩
       have HO := Lib.hid (ho.relax HK.out)
       replace bw := below_two bw bn
       clear bn ho
       go_wp2
       go_ret
       exact ⟨_, _, _, rfl, HO.out, bw⟩
end Go.Proofs.YtjikaojffgjndaaGreatDoor

/- Two structs of a sign and a slice that two calls answer and that go to two new variables ('x, y := f(..), g(..)'): Go leaves open when the variables are made; whatever the order, both boxes hold the answers. No condition. -/
namespace Go.Proofs.YtjikaojffgjndaaGreatDoor
open Go.RowKit Limb
set_option linter.unusedVariables false
abbrev zbox : Obj := .cells #[Value.bool false, Value.slice none 0 0] 25
def ZB (w : World) (g : Nat) : Prop := Row2 w g 25 (.bool false) (.slice none 0 0)
theorem ZB.below {w w' : World} {g : Nat} (h : ZB w g) (hb : Below w.heap.size w w') : ZB w' g := Row2.below h hb
theorem ZB.lt {w : World} {g : Nat} (h : ZB w g) : g < w.heap.size := Row2.lt h
theorem ZB.cells {w : World} {g : Nat} (h : ZB w g) : w.cell? ⟨g, 0, none⟩ = some (.bool false) ∧ w.cell? ⟨g, 1, none⟩ = some (.slice none 0 0) ∧ w.frozen? ⟨g, 0, none⟩ = false ∧ w.frozen? ⟨g, 1, none⟩ = false := ⟨h.c0, h.c1, h.free 0, h.free 1⟩
theorem ZB.apart {w : World} {g : Nat} (h : ZB w g) : w.heap.size ≠ g ∧ w.heap.size + 1 ≠ g := by have := h.lt; omega
theorem ZZ.put {w : World} {s : Bool} {A : Option Addr} {n c : Nat} {xs : List Nat} {z : Int} {L g : Nat} (h : ZZ w s A n c xs z L) (hb : ZB w g) (u v : Value) : ZZ ((w.setCell ⟨g, 0, none⟩ u).setCell ⟨g, 1, none⟩ v) s A n c xs z L := ⟨h.nn.put2 hb u v, h.sgn⟩
theorem Row2.far {w : World} {g g' : Nat} {T : TypeId} {u v : Value} (h : Row2 w g' T u v) (hne : g ≠ g') (x y : Value) : Row2 ((w.setCell ⟨g, 0, none⟩ x).setCell ⟨g, 1, none⟩ y) g' T u v := by
 unfold Row2 at h ⊢
 simp only [World.setCell, Array.getElem?_modify]
 rw [if_neg hne, if_neg hne]
 exact h
theorem Row2.filled {w : World} {g : Nat} {T : TypeId} {u v : Value} (h : Row2 w g T u v) (x y : Value) : Row2 ((w.setCell ⟨g, 0, none⟩ x).setCell ⟨g, 1, none⟩ y) g T x y := h.fill x y
section
variable {wP w : World} {q r : Nat} {s : Bool} {A : Option Addr} {n c : Nat} {xs : List Nat} {z : Int} {L : Nat} {s' : Bool} {A' : Option Addr} {n' c' : Nat} {xs' : List Nat} {z' : Int} {L' : Nat}
structure Two (wP wx : World) (q r : Nat) (s : Bool) (A : Option Addr) (n c : Nat) (xs : List Nat) (z : Int) (L : Nat) (s' : Bool) (A' : Option Addr) (n' c' : Nat) (xs' : List Nat) (z' : Int) (L' : Nat) : Prop where
 q : Row2 wx q 25 (.bool s) (.slice A n c)
 r : Row2 wx r 25 (.bool s') (.slice A' n' c')
 z : ZZ wx s A n c xs z L
 z' : ZZ wx s' A' n' c' xs' z' L'
 b : Below wP.heap.size wP wx
end
end Go.Proofs.YtjikaojffgjndaaGreatDoor

/- Rational numbers in memory: a struct of a sign and two lists of limbs that reads as a number, or as none. No condition. -/
namespace Go.Proofs.YtjikaojffgjndaaGreatDoor
open Go.RowKit Limb
set_option linter.unusedVariables false
theorem NN.short {w : World} {A : Option Addr} {n c : Nat} {xs : List Nat} {a L K : Nat} (h : NN w A n c xs a L) (hK : n ≤ K) : NN w A n c xs a K := ⟨h.isN, h.val, h.cap, hK⟩
structure QQ (w : World) (s : Bool) (A : Option Addr) (n c : Nat) (xs : List Nat) (B : Option Addr) (m d : Nat) (ys : List Nat) (o : Option Rat) (L : Nat) : Prop where
 top : ZZ w s A n c xs (zOf s (Limb.val xs)) L
 bot : NN w B m d ys (Limb.val ys) L
 rd : readQ s xs ys = o
theorem QQ.below {w w' : World} {s : Bool} {A : Option Addr} {n c : Nat} {xs : List Nat} {B : Option Addr} {m d : Nat} {ys : List Nat} {o : Option Rat} {L : Nat} (h : QQ w s A n c xs B m d ys o L) (hb : Below w.heap.size w w') : QQ w' s A n c xs B m d ys o L :=
 ⟨h.top.below hb, h.bot.below hb, h.rd⟩
abbrev QT (w : World) (A : Option Addr) (n c : Nat) (B : Option Addr) (m d : Nat) (o : Option Rat) : Prop :=
 QQ w (sg (oTop o)) A n c (limbs (oTop o).natAbs) B m d (limbs (oBot o)) o 64
theorem qt_some {w : World} {A : Option Addr} {n c : Nat} {B : Option Addr} {m d : Nat} {q : Rat} {L L' : Nat} (hz : ZZ w (sg q.num) A n c (limbs q.num.natAbs) q.num L) (hn : NN w B m d (limbs q.den) q.den L') (hf : fitsQ q = true) : QT w A n c B m d (some q) := by
 have h2 := hf
 simp only [fitsQ, Bool.and_eq_true, decide_eq_true_eq] at h2
 refine ⟨?_, ?_, readQ_told hf⟩
 · show ZZ w (sg q.num) A n c (limbs q.num.natAbs) (zOf (sg q.num) (Limb.val (limbs q.num.natAbs))) 64
   rw [val_limbs, zOf_sg]
   exact ⟨hz.nn.relax h2.1, hz.sgn⟩
 · show NN w B m d (limbs q.den) (Limb.val (limbs q.den)) 64
   rw [val_limbs]
   exact hn.relax h2.2
theorem qt_none (w : World) (c d : Nat) : QT w none 0 0 none 0 0 none := by
 have e1 : limbs (oTop none).natAbs = [] := limbs_zero
 have e2 : limbs (oBot none) = [] := limbs_zero
 refine ⟨?_, ?_, readQ_no goodV_none⟩
 · rw [e1]; exact ⟨⟨IsN.nil _ _, rfl, Nat.le_refl _, Nat.zero_le _⟩, rfl⟩
 · rw [e2]; exact ⟨IsN.nil _ _, rfl, Nat.le_refl _, Nat.zero_le _⟩
theorem QQ.some {w : World} {s : Bool} {A : Option Addr} {n c : Nat} {xs : List Nat} {B : Option Addr} {m d : Nat} {ys : List Nat} {q : Rat} {L : Nat} (h : QQ w s A n c xs B m d ys (some q) L) :
 s = sg q.num ∧ xs = limbs q.num.natAbs ∧ ys = limbs q.den ∧ fitsQ q = true ∧ ZZ w s A n c xs q.num 64 ∧ NN w B m d ys q.den 64 ∧ goodV s xs ys = true := by
 have hg : goodV s xs ys = true := by
  cases h2 : goodV s xs ys with
  | true => rfl
  | false => have := h.rd; rw [readQ_no h2] at this; cases this
 obtain ⟨q', e, h1, h2, h3, h4, h5, h6⟩ := readQ_yes hg
 have := h.rd
 rw [e] at this
 injection this with this
 subst this
 have hf := h4
 simp only [fitsQ, Bool.and_eq_true, decide_eq_true_eq] at hf
 refine ⟨h1, h2, h3, h4, ?_, ?_, hg⟩
 · have ht := h.top
   rw [← h5] at ht
   refine ⟨?_, ht.sgn⟩
   have hn := ht.nn
   rw [h2] at hn ⊢
   exact hn.relax hf.1
 · have hb := h.bot
   rw [← h6] at hb
   rw [h3] at hb ⊢
   exact hb.relax hf.2
theorem QQ.none {w : World} {s : Bool} {A : Option Addr} {n c : Nat} {xs : List Nat} {B : Option Addr} {m d : Nat} {ys : List Nat} {L : Nat} (h : QQ w s A n c xs B m d ys none L) : goodV s xs ys = false := by
 cases h2 : goodV s xs ys with
 | false => rfl
 | true =>
  obtain ⟨q', e, _⟩ := readQ_yes h2
  have := h.rd
  rw [e] at this
  cases this
theorem QQ.good {w : World} {s : Bool} {A : Option Addr} {n c : Nat} {xs : List Nat} {B : Option Addr} {m d : Nat} {ys : List Nat} {o : Option Rat} {L : Nat} (h : QQ w s A n c xs B m d ys o L) : goodV s xs ys = o.isSome := by
 cases o with
 | none => exact h.none
 | some q => exact h.some.2.2.2.2.2.2
theorem keepQ {o o' : Option Rat} (h : o = o') : (decide (sg (oTop o) = sg (oTop o')) && same (limbs (oTop o).natAbs) (limbs (oTop o').natAbs) && same (limbs (oBot o)) (limbs (oBot o'))) = true := by
 subst h; rw [same_self, same_self]; simp
theorem keepQ_ne {p q : Rat} (h : p ≠ q) : (decide (sg p.num = sg q.num) && same (limbs p.num.natAbs) (limbs q.num.natAbs) && same (limbs p.den) (limbs q.den)) = false := by
 by_cases h1 : p.num = q.num
 · have h2 : p.den ≠ q.den := fun e => h (Rat.ext h1 e)
   rw [same_limbs_ne h2]; simp
 · have e : (decide (sg p.num = sg q.num) && same (limbs p.num.natAbs) (limbs q.num.natAbs)) = false := by
    by_cases h3 : p.num.natAbs = q.num.natAbs
    · have : sg p.num ≠ sg q.num := by
       intro e
       apply h1
       rw [← zOf_sg (z := p.num), ← zOf_sg (z := q.num), e, h3]
      simp [this]
    · rw [same_limbs_ne h3]; simp
   rw [e]; rfl
end Go.Proofs.YtjikaojffgjndaaGreatDoor
