/- What package digits' Text answers, as a contract over memory, where its table of powers of ten reads as it is laid: the decimal digits of any list of limbs. Condition: the table (Tab), at most 10000 limbs. -/
import Derived.Test.YtpkjooiddejgpaaDoorDigC
namespace Go.Proofs.YtpkjooiddejgpaaDoor
open Go.RowKit Go.Shelf Limb
set_option linter.unusedVariables false
attribute [local go_sem] Oper.semAt_some

/-- What stands between two rounds: the text so far lies in a row of the call's own beyond n; its slice in the box at b. -/
def TextI (n b B : Nat) (w : World) (pre : List Grp) (W : World) : Prop :=
  ((∃ v, Boxed W b 36 v ∧ W.ownsRow n 5 1 v (cat pre).length ((cat pre).map byV) ∧ True) ∧ n ≤ W.heap.size) ∧ Below B w W

theorem ownFrom_size {β : Type} (B n : Nat) : OwnFrom B (fun (_ : β) W => n ≤ W.heap.size) := fun _ _ _ _ hs hg _ => Nat.le_trans hs hg.size

theorem isB_box {W : World} {A : Option Addr} {n b : Nat} {zs : List Nat} {t : TypeId} {A2 : Option Addr} {n2 c2 : Nat} (h : IsB W A n zs) (hb : Boxed W b t (.slice A2 n2 c2)) (u : Value) : IsB (W.setCell ⟨b, 0, none⟩ u) A n zs := by
  refine ⟨h.1, h.2.1, fun hn => ?_⟩
  obtain ⟨g, o, e, hlt, hc⟩ := h.2.2 hn
  have hne : b ≠ g := by
    rintro rfl
    have h1 := hc 0 hn
    unfold Boxed at hb
    simp only [World.cell?, hb] at h1
    rcases o with _ | o
    · simp at h1
    · simp at h1
  refine ⟨g, o, e, by simpa [World.setCell] using hlt, fun j hj => ?_⟩
  rw [World.cell?_setCell_other W ⟨b, 0, none⟩ ⟨g, o + j, none⟩ u (fun e => hne (by injection e))]
  exact hc j hj

set_option maxRecDepth 100000 in
set_option maxHeartbeats 4000000 in
theorem digText_c {A : Option Addr} {n c : Nat} {xs : List Nat} {a L : Nat} {w : World} (T : Tab w) (hx : NN w A n c xs a L) (h1 : L ≤ 10000) (S : ByteArray) (hS : strOf (decT a) = S) :
    Calls Tryd.prog 14 #[.slice A n c] w fun e w' => e = .returned (.string S) ∧ Below w.heap.size w w' := by
  have HT := Lib.hid T
  have HX := Lib.hid hx
  have HS := Lib.hid hS
  clear T hx hS
  refine (callsIn_wide (n := 6)).1 ?_
  refine callsIn_of_wp_marks Tryd.func14 rfl trivial ?_ rfl
  simp only [Tryd.ntmps14, List.size_toArray, List.length_cons, List.length_nil, Nat.reduceAdd, Nat.reduceSub, Array.replicate_succ, Array.replicate_zero, List.push_toArray, List.append_toArray, List.nil_append, List.cons_append]
  have b0 := (Below.refl w.heap.size w).alloc (Nat.le_refl _) (.cells #[.slice none 0 0] 36)
  have HG := Lib.hid (groups_c (HT.out.below b0) (HX.out.below b0) h1)
  clear b0
  gi_wp2_with fail
  refine ⟨trivial, ?_⟩
  refine (callsIn_wide.2 HG.out).mono ?_
  rintro e w2 ⟨A2, n2, c2, gs, rfl, how, hinv, hn2, bn⟩
  have hgl := how.len
  subst hgl
  have hgs := hinv.2.1
  have Hval := Lib.hid hinv.done
  have hlen9 : gs.length ≤ 1000000000 := by omega
  have bB : Boxed (w.alloc (.cells #[.slice none 0 0] 36)) w.heap.size 36 (.slice none 0 0) := Boxed.new w _ _
  have bB2 : Boxed w2 w.heap.size 36 (.slice none 0 0) := (bn.block _ (by simp)).trans bB
  have hsz : w.heap.size + 1 ≤ w2.heap.size := by have := bn.size; simpa using this
  have bw2 : Below w.heap.size w w2 := ((Below.refl w.heap.size w).alloc (Nat.le_refl _) _).trans (bn.mono (by simp))
  have hA : 0 < gs.length → ∃ b o, A2 = some ⟨b, o, none⟩ ∧ b < w2.heap.size + 1 ∧ b ≠ w.heap.size ∧ ∀ j, j < gs.length → (w2.alloc (.cells #[.slice A2 gs.length c2] 22)).cell? ⟨b, o + j, none⟩ = some (.int .u32 ((lim gs j : Nat) : Int)) := fun h => by
    obtain ⟨g, rfl, hBg, hgw⟩ := how.addr h
    simp only [World.size_alloc] at hBg
    refine ⟨g, 0, rfl, by omega, by omega, fun j hj => ?_⟩
    rw [Nat.zero_add]
    exact (Below.cell (p := ⟨g, j, none⟩) (below_new w2 _) hgw).trans (how.cell hj)
  clear how hinv HG bB bn
  gi_wp2_with fail
  refine ⟨trivial, ?_⟩
  refine (callsIn_wide.2 (back_in _ _ _ w2)).mono ?_
  rintro e w3' ⟨rfl, rfl⟩
  have hs3 : (w2.alloc (.cells #[.slice A2 gs.length c2] 22)).heap.size = w2.heap.size + 1 := World.size_alloc _ _
  have hc3 : (w2.alloc (.cells #[.slice A2 gs.length c2] 22)).cell? ⟨w2.heap.size, 0, none⟩ = some (.slice A2 gs.length c2) := (Boxed.new w2 _ _).cell
  have bB3 : Boxed (w2.alloc (.cells #[.slice A2 gs.length c2] 22)) w.heap.size 36 (.slice none 0 0) := bB2.alloc _
  have bw3 : Below w.heap.size w (w2.alloc (.cells #[.slice A2 gs.length c2] 22)) := bw2.alloc (by omega) _
  generalize w2.alloc (.cells #[.slice A2 gs.length c2] 22) = w3 at *
  clear bB2 bw2
  generalize w2.heap.size = s2 at *
  have hst : Below w3.heap.size w3 w3 := Below.refl _ _
  gi_wp2
  refine wpIn_rangeFunc_ownG rfl (by decide) (gf := 42) (lb := #[.pointer (some ⟨s2, 0, none⟩)]) rfl trivial (enters_of Tryd.func42 (by kernel_rfl) rfl)
    (back_stops Fence.wide _ trivial rfl (by decide) s2 w.heap.size w3.heap.size c2 A2 gs hgs hlen9 w3 (by omega) (by omega) (Nat.le_refl _) hc3 (fun h => by obtain ⟨b, o, e1, e2, e3, e4⟩ := hA h; exact ⟨b, o, e1, by omega, e3, e4⟩))
    (fun h k => KpB.trans h k) (KpB.turn (Nat.le_refl _)) (Below.refl _ _) (fun _ => rfl)
    (TextI w3.heap.size w.heap.size w.heap.size w)
    (fun _ _ _ => False)
    (OwnFrom.and (OwnFrom.and (Own.from (holdsRow_own w3.heap.size w.heap.size 36 5 1 (fun pre => (cat pre).length) (fun pre => (cat pre).map byV) (fun _ _ => True)) _) (ownFrom_size _ _)) (ownFrom_below (Nat.le_refl _) (by omega)))
    (fun _ _ _ _ _ hs _ _ => hs)
    ⟨⟨⟨_, bB3, World.ownsRow_nil _ _ _ _, trivial⟩, Nat.le_refl _⟩, bw3⟩
    (fun x => { tmps := #[.slice A n c, undef, .string ⟨#[]⟩, .pointer (some ⟨w.heap.size, 0, none⟩), undef, .int .u32 (x.1.2 : Int), .slice A n c, .slice A2 gs.length c2, .func (.func 42) #[] #[.pointer (some ⟨s2, 0, none⟩)], .int .i64 (x.1.1 : Int), .int .u32 (x.1.2 : Int), undef, undef, undef, undef, undef, undef, undef, undef, undef, undef], defers := [] }) ?assign ?body ?done ?stop
  case assign =>
    intro l x W K hK
    gi_wp2
    exact hK
  case body =>
    rintro l pre x W ⟨⟨⟨v, hv, hrow, _⟩, hsW⟩, hB⟩ hlt
    obtain ⟨A4, c4, rfl, how⟩ := shape_ownB hrow (allDig_bytes (cat_dig pre))
    rw [cat_len] at how hv
    have hc := hv.cell
    have HC := appendGroup_c (HT.out.below hB) how hsW (by have := HT.out.lt; omega) (by omega) x.1.2 x.2
    clear hrow how
    gi_wp2_with fail
    refine ⟨trivial, ?_⟩
    refine (CallsIn.inRound l (callsIn_wide.2 HC)).mono ?_
    rintro e w4 ⟨A5, c5, rfl, hB5, hb5, hk5⟩
    have hv4 : Boxed w4 w.heap.size 36 (.slice A4 (9 * pre.length) c4) := (hb5.block _ (by omega)).trans hv
    have hc4 := hv4.cell
    have hf4 := hv4.frozen
    have e9 : 9 * pre.length + 9 = (cat (pre ++ [x])).length := by rw [cat_len, List.length_append]; simp; omega
    have hrow5 := hB5.1
    rw [← cat_snoc, e9] at hrow5
    clear hc HC
    gi_wp2
    exact ⟨(hk5.trans (KeepsOthers.setCell _ _ _)).from _, (KpB.below hb5 hsW).set _, ⟨⟨_, hv4.set _, hrow5.kept (grownBy_setCell' _ _ _) (.inr (hv4.not_row (by decide) hrow5).symm), trivial⟩, by have := hb5.size; simp [World.setCell]; omega⟩, (hB.trans (hb5.mono (by omega))).setCell (p := ⟨w.heap.size, 0, none⟩) (Nat.le_refl _) _⟩
  case done =>
    rintro D ys W hD rfl ⟨⟨⟨v, hv, hrow, _⟩, hsW⟩, hB⟩ hK
    obtain ⟨A4, c4, rfl, how⟩ := shape_ownB hrow (allDig_bytes (cat_dig _))
    have hcaps := how.caps
    have hc := hv.cell
    have hf := hv.frozen
    have HC := trim0_c how.isB hcaps.1 hcaps.2
    have hd := flat_dig gs
    have hval : decV (flat gs) = a := by rw [flat_val gs hgs, Hval.out]
    clear hrow how hcaps
    generalize (cat (downs gs hgs gs.length)).length = n4 at *
    rw [cat_downs] at HC
    gi_wp2_with fail
    refine ⟨trivial, ?_⟩
    refine (callsIn_wide.2 HC).mono ?_
    rintro e w5 ⟨A6, n6, c6, rfl, hI, rfl⟩
    have hI2 := isB_box hI hv (.slice A6 n6 c6)
    have hK2 := (KeepsOthers.setCell w5 ⟨w.heap.size, 0, none⟩ (.slice A6 n6 c6)).same D _ hK rfl
    have hB2 : Below w.heap.size w (w5.setCell ⟨w.heap.size, 0, none⟩ (.slice A6 n6 c6)) := hB.setCell (p := ⟨w.heap.size, 0, none⟩) (Nat.le_refl _) _
    have hc2 : (w5.setCell ⟨w.heap.size, 0, none⟩ (.slice A6 n6 c6)).cell? ⟨w.heap.size, 0, none⟩ = some (.slice A6 n6 c6) := (hv.set _).cell
    by_cases h0 : n6 = 0
    · have hz : S = ⟨#[48]⟩ := by
        have h3 : bare (flat gs) = [] := List.eq_nil_of_length_eq_zero (by rw [hI.1, h0])
        have h4 := (bare_nil hd).1 h3
        rw [hval] at h4
        rw [← HS.out, h4]; rfl
      subst h0
      clear hI hI2 HC hd hval
      gi_wp2
      refine ⟨by simp, .inl ⟨_, _, rfl, run_takeDeferred hK2, ?_⟩⟩
      exact ⟨_, results_tmp rfl _ _ _, by rw [hz]; rfl, hB2.trans (belowK_b (w := w) (Nat.le_refl _) _ D _ _ (by omega) hK2 rfl rfl)⟩
    · have hz : strOf (bare (flat gs)) = S := by
        have h3 : bare (flat gs) ≠ [] := fun e => h0 (by rw [← hI.1, e]; rfl)
        rw [bare_dec hd h3, hval, HS.out]
      have hconv := run_text hI2 (c := c6) (by omega)
      rw [hz] at hconv
      clear hI hI2 HC hd hval
      have h00 : ((n6 : Int) == 0) = false := by simp; omega
      gi_wp2
      refine ⟨by simp, .inl ⟨_, _, rfl, run_takeDeferred hK2, ?_⟩⟩
      exact ⟨_, results_tmp rfl _ _ _, rfl, hB2.trans (belowK_b (w := w) (Nat.le_refl _) _ D _ _ (by omega) hK2 rfl rfl)⟩
  case stop =>
    rintro D c pre W _ _ h _
    exact h.elim

end Go.Proofs.YtpkjooiddejgpaaDoor
