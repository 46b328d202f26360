/- What the reference's Pow of layer 2 comes to, as a contract over memory: the power bit by bit, and whether there is one. Conditions: the list reads as limbs, of at most 10^5 of them. -/
import Derived.Test.YtegcpiicfcpppaaRefMulC
import Derived.Laws.Rows
namespace Go.Proofs.Ytegcpiicfcpppaa
open Go.RowKit Limb
set_option linter.unusedVariables false

theorem got_size : (Try.prog.info? 31).map (·.size) = some 2 := by kernel_rfl

/-- A result's cell that holds nothing yet. -/
def Blank (w : World) (g : Nat) : Prop := w.heap[g]? = some (.cells #[Value.slice none 0 0, Value.bool false] 31 (0, 0))
theorem Blank.below {w w' : World} {g : Nat} (h : Blank w g) (hb : Below w.heap.size w w') : Blank w' g := by
  have hlt : g < w.heap.size := by
    rcases Nat.lt_or_ge g w.heap.size with hlt | hge
    · exact hlt
    · unfold Blank at h; rw [Array.getElem?_eq_none hge] at h; cases h
  exact (hb.block g hlt).trans h
theorem Blank.c0 {w : World} {g : Nat} (h : Blank w g) : w.cell? ⟨g, 0, none⟩ = some (.slice none 0 0) := by unfold Blank at h; simp [World.cell?, h]
theorem Blank.c1 {w : World} {g : Nat} (h : Blank w g) : w.cell? ⟨g, 1, none⟩ = some (.bool false) := by unfold Blank at h; simp [World.cell?, h]
theorem Blank.f0 {w : World} {g : Nat} (h : Blank w g) (k : Nat) : w.frozen? ⟨g, k, none⟩ = false := by unfold Blank at h; simp [World.frozen?, h]

theorem Blank.filled {w : World} {g : Nat} (h : Blank w g) (u v : Value) : ((w.setCell ⟨g, 0, none⟩ u).setCell ⟨g, 1, none⟩ v).heap[g]? = some (.cells #[u, v] 31 (0, 0)) := by
  unfold Blank at h
  simp [World.setCell, Array.getElem?_modify, h]

theorem NN.put {w : World} {A : Option Addr} {n c : Nat} {xs : List Nat} {a L g : Nat} (h : NN w A n c xs a L) (hb : Blank w g) (u v : Value) : NN ((w.setCell ⟨g, 0, none⟩ u).setCell ⟨g, 1, none⟩ v) A n c xs a L := by
  refine ⟨⟨h.isN.1, h.isN.2.1, fun hn => ?_⟩, h.val, h.cap, h.le⟩
  obtain ⟨b, o, e, hlt, hc⟩ := h.isN.2.2 hn
  have hbg : b ≠ g := by
    rintro rfl
    have h1 := hc 0 hn
    unfold Blank at hb
    match o, h1 with
    | 0, h1 => simp [World.cell?, hb] at h1
    | 1, h1 => simp [World.cell?, hb] at h1
    | o + 2, h1 => simp [World.cell?, hb] at h1
  refine ⟨b, o, e, by simpa [World.setCell] using hlt, fun j hj => ?_⟩
  rw [cell_setCell_ne _ _ (by intro e; injection e with e; exact hbg e.symm), cell_setCell_ne _ _ (by intro e; injection e with e; exact hbg e.symm)]
  exact hc j hj

theorem below_put {w wr : World} {g : Nat} (h : Below w.heap.size w wr) (hg : w.heap.size ≤ g) (u v : Value) : Below w.heap.size w ((wr.setCell ⟨g, 0, none⟩ u).setCell ⟨g, 1, none⟩ v) :=
  (h.setCell (by exact hg) _).setCell (by exact hg) _

set_option maxHeartbeats 1600000 in
theorem refPow_c {A : Option Addr} {n c : Nat} {xs : List Nat} {a L : Nat} {w : World} (hx : NN w A n c xs a L) (h1 : L ≤ 100000) (V : Int) (h0 : -9223372036854775808 ≤ V) (h2 : V ≤ 9223372036854775807) (T : Option Nat) (hT : powV a V = T) :
    Calls Try.prog 12 #[.slice A n c, .int .i64 V] w fun e w' => ∃ A2 n2 c2, e = .returned (.agg #[.slice A2 n2 c2, .bool T.isSome]) ∧ NN w' A2 n2 c2 (limbs (T.getD 0)) (T.getD 0) 256 ∧ Below w.heap.size w w' := by
  by_cases hneg : V < 0
  · have HT : RowKit.Hid (T = none) := by show _ = _; rw [← hT]; exact powV_neg hneg
    go_enter Try.func12, Try.ntmps12
    go_wp2
    refine bodyPost_ret (results_cell_row rfl _ _ w.heap.size 31 #[Value.slice none 0 0, Value.bool false] (0, 0) _ rfl (heap_alloc_new _ _) Try.underlying31 rfl got_size) rfl ?_
    exact ⟨none, 0, 0, by rw [HT.out]; rfl, by rw [HT.out]; exact ⟨IsN.nil _ _, rfl, Nat.le_refl _, Nat.zero_le _⟩, below_new _ _⟩
  · obtain ⟨m, rfl⟩ := Int.eq_ofNat_of_zero_le (show 0 ≤ V by omega)
    have hm : m < 9223372036854775808 := by omega
    have hT2 : powF a m 63 1 = T := by
      rw [powV, if_neg hneg, Int.toNat_natCast] at hT
      exact hT
    have HT := Lib.hid hT2
    have bl := below_new w (.cells #[Value.slice none 0 0, Value.bool false] 31)
    have Hb0 : RowKit.Hid (Blank (w.alloc (.cells #[Value.slice none 0 0, Value.bool false] 31)) w.heap.size) := heap_alloc_new _ _
    have b0' := below_new (w.alloc (.cells #[Value.slice none 0 0, Value.bool false] 31)) (.cells #[Value.int IntKind.u32 1] 36)
    have hlit := lit_c (w.alloc (.cells #[Value.slice none 0 0, Value.bool false] 31)) [1] (by intro x hx; simp at hx; omega) 1 rfl
    have h256 : 4294967296 ^ 1 ≤ 4294967296 ^ 256 := Nat.pow_le_pow_right (by decide) (by decide)
    have e1 : [1] = limbs 1 := by
      have h := eq_limbs (xs := [1]) (by intro x hx; simp at hx; omega) (.inr (by decide))
      simpa [val] using h
    have hone : NN ((w.alloc (.cells #[Value.slice none 0 0, Value.bool false] 31)).alloc (.cells #[Value.int IntKind.u32 1] 36)) (some ⟨w.heap.size + 1, 0, none⟩) 1 1 (limbs 1) 1 256 := by
      rw [← e1]
      have h3 := hlit
      have hsz : (w.alloc (.cells #[Value.slice none 0 0, Value.bool false] 31)).heap.size = w.heap.size + 1 := by simp
      rw [hsz] at h3
      exact ⟨h3.isN, rfl, Nat.le_refl _, by omega⟩
    have Hone := Lib.hid hone
    have Hx := Lib.hid ((hx.below bl).below b0')
    have HbA := Lib.hid (below_two bl b0')
    have HB := Lib.hid (Hb0.out.below b0')
    clear hT hT2 hneg bl b0' hlit h256 e1 hone Hb0 hx
    go_enter Try.func12, Try.ntmps12
    go_wp2
    go_loopw [6, 5] (fun i ov wr => ∃ (j out : Nat) (A2 : Option Addr) (n2 c2 : Nat), j ≤ 63 ∧ i = .int .i64 ((j : Int) - 1) ∧ ov = .slice A2 n2 c2 ∧ RowKit.Hid (powF a m j out = T) ∧ RowKit.Hid (NN wr A2 n2 c2 (limbs out) out 256) ∧ RowKit.Hid (NN wr A n c xs a L) ∧ RowKit.Hid (Below w.heap.size w wr) ∧ RowKit.Hid (Blank wr w.heap.size)) (fun i _ _ => (intOf i + 1).toNat)
    case atStart => exact ⟨63, 1, _, _, _, by omega, rfl, rfl, HT, Hone, Hx, HbA, HB⟩
    case round =>
      clear HT Hone Hx HbA HB
      obtain ⟨j, out, A2, n2, c2, hj, rfl, rfl, HT, Ho, Hx, Hbw, HB⟩ := hrel
      have ho := Ho.out
      have h_x := Hx.out
      have bw := Hbw.out
      have hbl := HB.out
      clear Ho Hx Hbw HB
      rcases j with _ | p
      · have e0 : RowKit.Hid (T = some out) := by have := HT.out; rw [powF] at this; exact this.symm
        have hc0 := hbl.c0
        have hc1 := hbl.c1
        have hf0 := hbl.f0 0
        have hf1 := hbl.f0 1
        go_wp2
        refine bodyPost_ret (results_cell_row rfl _ _ w.heap.size 31 #[Value.slice A2 n2 c2, Value.bool true] (0, 0) _ rfl (hbl.filled _ _) Try.underlying31 rfl got_size) rfl ?_
        exact ⟨A2, n2, c2, by rw [e0.out]; rfl, by rw [e0.out]; exact ho.put hbl _ _, below_put bw (Nat.le_refl _) _ _⟩
      · have ep : (((p + 1 : Nat) : Int) - 1) = (p : Int) := by omega
        rw [ep]
        have hp : p ≤ 62 := by omega
        have hbit := i64_bit m p hm
        clear ep hj
        go_wp2_with fail
        refine (refMul_c ho ho (by decide) (by decide)).mono ?_
        rintro e w3 ⟨A3, n3, c3, rfl, h3, bn⟩
        replace h_x := h_x.below bn
        replace hbl := hbl.below bn
        replace bw := below_two bw bn
        clear bn ho
        have hn3 := h3.le
        by_cases hbig : big (out * out) = true
        · have hl3 := nn_big h3 hbig
          have HN := Lib.hid (powF_none HT.out (stepP_big hbig))
          have hc0 := hbl.c0
          have hc1 := hbl.c1
          have hf0 := hbl.f0 0
          have hf1 := hbl.f0 1
          clear hbig
          go_wp2
          refine bodyPost_ret (results_cell_row rfl _ _ w.heap.size 31 #[Value.slice none 0 0, Value.bool false] (0, 0) _ rfl (hbl.filled _ _) Try.underlying31 rfl got_size) rfl ?_
          exact ⟨none, 0, 0, by rw [HN.out]; rfl, by rw [HN.out]; exact ⟨IsN.nil _ _, rfl, Nat.le_refl _, Nat.zero_le _⟩, below_put bw (Nat.le_refl _) _ _⟩
        · have hbig : big (out * out) = false := by simpa using hbig
          have hl3 := nn_small h3 hbig
          by_cases hbt : m.testBit p = true
          · rw [hbt] at hbit
            have Hbt := Lib.hid hbt
            have Hbig := Lib.hid hbig
            clear hbt hbig
            go_wp2_with fail
            refine (refMul_c h3 h_x (by decide) (by omega)).mono ?_
            rintro e w4 ⟨A4, n4, c4, rfl, h4, bn⟩
            replace h_x := h_x.below bn
            replace hbl := hbl.below bn
            replace bw := below_two bw bn
            clear bn h3
            have hn4 := h4.le
            by_cases hb2 : big (out * out * a) = true
            · have hl4 := nn_big h4 hb2
              have HN := Lib.hid (powF_none HT.out (by rw [Hbt.out]; exact stepP_over Hbig.out hb2))
              have hc0 := hbl.c0
              have hc1 := hbl.c1
              have hf0 := hbl.f0 0
              have hf1 := hbl.f0 1
              clear hb2
              go_wp2
              refine bodyPost_ret (results_cell_row rfl _ _ w.heap.size 31 #[Value.slice none 0 0, Value.bool false] (0, 0) _ rfl (hbl.filled _ _) Try.underlying31 rfl got_size) rfl ?_
              exact ⟨none, 0, 0, by rw [HN.out]; rfl, by rw [HN.out]; exact ⟨IsN.nil _ _, rfl, Nat.le_refl _, Nat.zero_le _⟩, below_put bw (Nat.le_refl _) _ _⟩
            · have hb2 : big (out * out * a) = false := by simpa using hb2
              have hl4 := nn_small h4 hb2
              have HN := Lib.hid (powF_some HT.out (by rw [Hbt.out]; exact stepP_yes Hbig.out hb2))
              have H5 := Lib.hid (h4.relax (big_no hb2))
              have Hx2 := Lib.hid h_x
              have Hb2 := Lib.hid bw
              have HB2 := Lib.hid hbl
              clear hb2 h4 h_x bw hbl
              go_wp2
              go_roundw
              case rel => exact ⟨p, _, A4, n4, c4, by omega, by go_num, rfl, HN, H5, Hx2, Hb2, HB2⟩
              case measure => simp [intOf]
          · have hbt : m.testBit p = false := by simpa using hbt
            rw [hbt] at hbit
            have HN := Lib.hid (powF_some HT.out (by rw [hbt]; exact stepP_no hbig))
            have H5 := Lib.hid (h3.relax (big_no hbig))
            have Hx2 := Lib.hid h_x
            have Hb2 := Lib.hid bw
            have HB2 := Lib.hid hbl
            clear hbt hbig h3 h_x bw hbl
            go_wp2
            go_roundw
            case rel => exact ⟨p, _, A3, n3, c3, by omega, by go_num, rfl, HN, H5, Hx2, Hb2, HB2⟩
            case measure => simp [intOf]

end Go.Proofs.Ytegcpiicfcpppaa
