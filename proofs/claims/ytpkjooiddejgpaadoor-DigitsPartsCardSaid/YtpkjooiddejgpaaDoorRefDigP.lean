/- What the reference's Parse of layer 5 comes to, as a contract over memory: the number of a text of decimal digits, or that there is none. Conditions: texts that can be read. -/
import Derived.Test.YtpkjooiddejgpaaDoorRefDig
import Derived.Test.YtpkjooiddejgpaaDoorRefQuo
import Derived.Laws.Rows
import Derived.Deep.RegionWith
namespace Go.Proofs.YtpkjooiddejgpaaDoor
open Go.RowKit Limb
set_option linter.unusedVariables false

/-- A block of two cells. -/
def Row2 (w : World) (g : Nat) (T : TypeId) (u v : Value) : Prop := w.heap[g]? = some (.cells #[u, v] T (0, 0))
section
variable {w w' : World} {g : Nat} {T : TypeId} {u v : Value}
theorem Row2.lt (h : Row2 w g T u v) : g < w.heap.size := by
  rcases Nat.lt_or_ge g w.heap.size with hlt | hge
  · exact hlt
  · unfold Row2 at h; rw [Array.getElem?_eq_none hge] at h; cases h
theorem Row2.below (h : Row2 w g T u v) (hb : Below w.heap.size w w') : Row2 w' g T u v := (hb.block g h.lt).trans h
theorem Row2.c0 (h : Row2 w g T u v) : w.cell? ⟨g, 0, none⟩ = some u := by unfold Row2 at h; simp [World.cell?, h]
theorem Row2.c1 (h : Row2 w g T u v) : w.cell? ⟨g, 1, none⟩ = some v := by unfold Row2 at h; simp [World.cell?, h]
theorem Row2.free (h : Row2 w g T u v) (k : Nat) : w.frozen? ⟨g, k, none⟩ = false := by unfold Row2 at h; simp [World.frozen?, h]
theorem Row2.fill (h : Row2 w g T u v) (x y : Value) : ((w.setCell ⟨g, 0, none⟩ x).setCell ⟨g, 1, none⟩ y).heap[g]? = some (.cells #[x, y] T (0, 0)) := by
  unfold Row2 at h
  simp [World.setCell, Array.getElem?_modify, h]
theorem row2_new (w : World) (T : TypeId) (u v : Value) : Row2 (w.alloc (.cells #[u, v] T)) w.heap.size T u v := heap_alloc_new _ _
theorem below_fill (h : Below w.heap.size w w') (hg : w.heap.size ≤ g) (x y : Value) : Below w.heap.size w ((w'.setCell ⟨g, 0, none⟩ x).setCell ⟨g, 1, none⟩ y) :=
  (h.setCell (by exact hg) _).setCell (by exact hg) _
end

theorem got5_size : (Tryd.prog.info? 29).map (·.size) = some 2 := by kernel_rfl

theorem numOk_len {l : List Nat} (h : l.length = 0 ∨ 2000 < l.length) : numOk l = false := by
  unfold numOk
  rcases h with h | h
  · simp [h]
  · rw [decide_eq_false (by omega : ¬ l.length ≤ 2000)]; simp
theorem numOk_bad {l : List Nat} {k : Nat} (hk : k < l.length) (h : isDig (lim l k) = false) : numOk l = false := by
  have : allDig l = false := by
    rw [Bool.eq_false_iff]
    intro h2
    have h3 := List.all_eq_true.1 h2 l[k] (List.getElem_mem hk)
    have e : lim l k = l[k] := by simp [lim, List.getD_eq_getElem?_getD, List.getElem?_eq_getElem hk]
    rw [← e, h] at h3
    cases h3
  unfold numOk
  rw [this]; simp
theorem numOk_good {l : List Nat} (h1 : 1 ≤ l.length) (h2 : l.length ≤ 2000) (h3 : allDig l = true) : numOk l = true := by
  unfold numOk
  simp [h1, h2, h3]

/-- The first bytes are digits, and tell t. -/
def PInv (l : List Nat) (i t : Nat) : Prop := allDig (l.take i) = true ∧ t = decV (l.take i)
theorem PInv.start (l : List Nat) : PInv l 0 0 := ⟨rfl, rfl⟩
theorem PInv.step {l : List Nat} {i t : Nat} (h : PInv l i t) (hi : i < l.length) (hd : isDig (lim l i) = true) : PInv l (i + 1) (t * 10 + (lim l i - 48)) := by
  have e : l.take (i + 1) = l.take i ++ [lim l i] := by
    rw [List.take_succ_eq_append_getElem hi]
    simp [lim, List.getD_eq_getElem?_getD, List.getElem?_eq_getElem hi]
  refine ⟨by rw [e, allDig_append, h.1]; simp [allDig, hd], by rw [e, decV_snoc, h.2]⟩
theorem PInv.lt {l : List Nat} {i t : Nat} (h : PInv l i t) (hi : l.length ≤ 2000) : t < 4294967296 ^ 223 := by
  have h1 := decV_lt h.1
  rw [← h.2] at h1
  refine Nat.lt_of_lt_of_le h1 (dec_room ?_)
  rw [List.length_take]
  omega

/-- What a text of digits tells, 0 where it tells nothing. -/
def numV (l : List Nat) : Nat := if numOk l = true then decV l else 0
theorem numV_yes {l : List Nat} (h : numOk l = true) : numV l = decV l := if_pos h
theorem numV_no {l : List Nat} (h : numOk l = false) : numV l = 0 := if_neg (by rw [h]; decide)
theorem numV_lt (l : List Nat) : numV l < 4294967296 ^ 223 := by
  unfold numV
  split
  · rename_i h
    simp only [numOk, Bool.and_eq_true, decide_eq_true_eq] at h
    exact Nat.lt_of_lt_of_le (decV_lt h.2) (dec_room (by omega))
  · exact Nat.pow_pos (by decide)

set_option maxHeartbeats 4000000 in
set_option maxRecDepth 4000 in
theorem refParse_c (s : ByteArray) (w : World) :
    Calls Tryd.prog 10 #[.string s] w fun e w' => ∃ A1 n1 c1, e = .returned (.agg #[.slice A1 n1 c1, .bool (numOk (bytesOf s))]) ∧ NN w' A1 n1 c1 (limbs (numV (bytesOf s))) (numV (bytesOf s)) 223 ∧ Below w.heap.size w w' := by
  have HB := Lib.hid (row2_new w 29 (.slice none 0 0) (.bool false))
  have HW := Lib.hid (below_new w (.cells #[Value.slice none 0 0, Value.bool false] 29))
  have Hnn : ∀ wx : World, RowKit.Hid (numOk (bytesOf s) = false) → NN wx none 0 0 (limbs (numV (bytesOf s))) (numV (bytesOf s)) 223 := fun wx h => by
    rw [numV_no h.out, limbs_zero]; exact ⟨IsN.nil _ _, rfl, Nat.le_refl _, Nat.zero_le _⟩
  have HNN := Lib.hid Hnn
  clear Hnn
  by_cases hz : s.size < 1
  · have HO : RowKit.Hid (numOk (bytesOf s) = false) := numOk_len (.inl (by rw [length_bytesOf]; omega))
    have hc0 := HB.out.c0
    have hc1 := HB.out.c1
    have hf0 := HB.out.free 0
    have hf1 := HB.out.free 1
    go_enter Tryd.func10, Tryd.ntmps10
    go_wp2
    refine bodyPost_ret (results_cell_row rfl _ _ w.heap.size 29 #[Value.slice none 0 0, Value.bool false] (0, 0) _ rfl HB.out Tryd.underlying29 rfl got5_size) rfl ?_
    exact ⟨none, 0, 0, by rw [HO.out], HNN.out _ HO, HW.out⟩
  · by_cases hz2 : 2000 < s.size
    · have HO : RowKit.Hid (numOk (bytesOf s) = false) := numOk_len (.inr (by rw [length_bytesOf]; omega))
      have hc0 := HB.out.c0
      have hc1 := HB.out.c1
      have hf0 := HB.out.free 0
      have hf1 := HB.out.free 1
      go_enter Tryd.func10, Tryd.ntmps10
      go_wp2
      refine bodyPost_ret (results_cell_row rfl _ _ w.heap.size 29 #[Value.slice none 0 0, Value.bool false] (0, 0) _ rfl HB.out Tryd.underlying29 rfl got5_size) rfl ?_
      exact ⟨none, 0, 0, by rw [HO.out], HNN.out _ HO, HW.out⟩
    · have h1 : 1 ≤ s.size := by omega
      have h2 : s.size ≤ 2000 := by omega
      have HX : RowKit.Hid (NN (w.alloc (.cells #[Value.slice none 0 0, Value.bool false] 29)) none 0 0 (limbs 0) 0 223) := ⟨IsN.nil _ _, rfl, Nat.le_refl _, Nat.zero_le _⟩
      have HP := Lib.hid (PInv.start (bytesOf s))
      clear hz hz2
      go_enter Tryd.func10, Tryd.ntmps10
      go_wp2
      go_loopw [4, 3] (fun iv nv wr => ∃ (i t : Nat) (A2 : Option Addr) (n2 c2 : Nat), i ≤ s.size ∧ iv = .int .i64 (i : Int) ∧ nv = .slice A2 n2 c2 ∧ RowKit.Hid (PInv (bytesOf s) i t) ∧ RowKit.Hid (NN wr A2 n2 c2 (limbs t) t 223) ∧ RowKit.Hid (Row2 wr w.heap.size 29 (.slice none 0 0) (.bool false)) ∧ RowKit.Hid (Below w.heap.size w wr)) (fun iv _ _ => s.size - (intOf iv).toNat)
      case atStart => exact ⟨0, 0, none, 0, 0, Nat.zero_le _, rfl, rfl, HP, HX, HB, HW⟩
      case round =>
        clear HP HX HB HW
        obtain ⟨i, t, A2, n2, c2, hi, rfl, rfl, HP, HX, HB, HW⟩ := hrel
        by_cases hlt : i < s.size
        · obtain ⟨d, hd⟩ : ∃ d, (s[i]'hlt).toNat = d := ⟨_, rfl⟩
          have hdl : lim (bytesOf s) i = d := by rw [← byte_at s i hlt, hd]
          by_cases hdd : 48 ≤ d ∧ d ≤ 57
          · obtain ⟨hd1, hd2⟩ := hdd
            have hdig : isDig d = true := by simp [isDig, hd1, hd2]
            have Hst := Lib.hid (HP.out.step (by rw [length_bytesOf]; exact hlt) (by rw [hdl]; exact hdig))
            rw [hdl] at Hst
            have hx := HX.out
            obtain ⟨x, hxd⟩ : ∃ x, d - 48 = x := ⟨_, rfl⟩
            have hx9 : x ≤ 9 := by omega
            have edd : IntKind.u8.wrap ((d : Int) - 48) = (x : Int) := by rw [IntKind.wrap_u8]; omega
            have ew : IntKind.u32.wrap (x : Int) = (x : Int) := by rw [IntKind.wrap_u32]; omega
            rw [hxd] at Hst
            have KL : RowKit.Hid (∀ wx : World, NN (wx.alloc (.cells #[Value.int IntKind.u32 (x : Int)] 39)) (some ⟨wx.heap.size, 0, none⟩) 1 1 [x] x 1) := fun wx => by
              have h := lit_c wx [x] (by intro y hy; simp at hy; omega) 1 rfl
              have e : Limb.val [x] = x := by simp [Limb.val]
              rw [e] at h
              exact h
            have HLT := Lib.hid (PInv.lt Hst.out (by rw [length_bytesOf]; exact h2))
            clear hxd HP HX hdl hdig
            go_wp2
            go_region_with (first
              | (go_at_call 24; (with_reducible refine (refSmall_c (by first | exact hx | exact hx.below (Below.refl _ _).drew | exact hx.below (below_new _ _) | exact hx.below (below_new _ _).drew) 10 10 rfl (by decide) (by omega)).mono ?_); rintro e w2 ⟨A_x, n_x, c_x, rfl, h_x, bn_x⟩;
                  have hb2 := below_two (w := wr) (by first | exact Below.refl _ _ | exact (Below.refl _ _).drew | exact below_new _ _ | exact (below_new _ _).drew) bn_x)
              | (go_at_call 23; (first | (with_reducible refine (refAdd_c (h_x.below (below_new _ _)) (KL.out _) (by omega) (by omega)).mono ?_) | (with_reducible refine (refAdd_c h_x ((KL.out _).below bn_x) (by omega) (by omega)).mono ?_) | (with_reducible refine (refAdd_c h_x (((KL.out wr).below (Below.refl _ _).drew).below bn_x) (by omega) (by omega)).mono ?_)); rintro e w3 ⟨A_y, n_y, c_y, rfl, h_y, bn_y⟩;
                  have hb3 := below_two (w := wr) (by first | exact hb2 | exact below_two hb2 (below_new _ _)) bn_y))
            all_goals
              have HY := Lib.hid (h_y.relax HLT.out)
              have HB3 := Lib.hid (HB.out.below hb3)
              have HW3 := Lib.hid (below_two HW.out hb3)
              clear h_x bn_x h_y bn_y hb2 hb3 hx HB HW
              go_wp2
              go_roundw
              case rel => exact ⟨i + 1, t * 10 + x, A_y, n_y, c_y, by omega, by go_num, rfl, Hst, HY, HB3, HW3⟩
              case measure => simp [intOf]; omega
          · have HO : RowKit.Hid (numOk (bytesOf s) = false) := numOk_bad (k := i) (by rw [length_bytesOf]; exact hlt) (by
              rw [hdl]; unfold isDig
              rcases (show d < 48 ∨ 57 < d by omega) with h | h
              · simp [show ¬ 48 ≤ d by omega]
              · simp [show ¬ d ≤ 57 by omega])
            have hc0 := HB.out.c0
            have hc1 := HB.out.c1
            have hf0 := HB.out.free 0
            have hf1 := HB.out.free 1
            rcases (show d < 48 ∨ (48 ≤ d ∧ 57 < d) by omega) with h | ⟨h, h'⟩
            all_goals
              clear hdd hdl
              go_wp2
              refine bodyPost_ret (results_cell_row rfl _ _ w.heap.size 29 #[Value.slice none 0 0, Value.bool false] (0, 0) _ rfl (HB.out.fill _ _) Tryd.underlying29 rfl got5_size) rfl ?_
              exact ⟨none, 0, 0, by rw [HO.out], HNN.out _ HO, below_fill HW.out (Nat.le_refl _) _ _⟩
        · obtain rfl : i = s.size := by omega
          have hall := HP.out
          unfold PInv at hall
          rw [← length_bytesOf, List.take_length] at hall
          have HO : RowKit.Hid (numOk (bytesOf s) = true) := numOk_good (by rw [length_bytesOf]; exact h1) (by rw [length_bytesOf]; exact h2) hall.1
          have HV : RowKit.Hid (numV (bytesOf s) = t) := by show _ = _; rw [numV_yes HO.out, ← hall.2]
          have hx := HX.out
          clear hall HP HX
          go_wp2_with fail
          refine (refTrim_o hx (by decide)).mono ?_
          rintro e w2 ⟨A3, n3, c3, rfl, how, bn⟩
          have HB2 := Lib.hid (HB.out.below bn)
          have HW2 := Lib.hid (below_two HW.out bn)
          have Hg := Lib.hid HB.out.lt
          have HN : RowKit.Hid (NN w2 A3 n3 c3 (limbs t) t 223) := NN.own how (lt_pow hx)
          have HA := Lib.hid (Apart.own how Hg.out)
          have hc0 := HB2.out.c0
          have hc1 := HB2.out.c1
          have hf0 := HB2.out.free 0
          have hf1 := HB2.out.free 1
          clear how bn hx HB HW
          go_wp2
          refine bodyPost_ret (results_cell_row rfl _ _ w.heap.size 29 #[Value.slice A3 n3 c3, Value.bool true] (0, 0) _ rfl (HB2.out.fill _ _) Tryd.underlying29 rfl got5_size) rfl ?_
          exact ⟨A3, n3, c3, by rw [HO.out], by rw [HV.out]; exact (HN.out.elsewhere HA.out _ _).elsewhere HA.out _ _, below_fill HW2.out (Nat.le_refl _) _ _⟩

end Go.Proofs.YtpkjooiddejgpaaDoor
