/- Part 10 of the texts that the statements of this seat lean on: mathematics, and what functions answer, as contracts over memory; each part says its own conditions. -/
import Derived.Test.YtjikaojffgjndaaGreatDoorM9
import Derived.RangeFuncNested
import Derived.RangeFuncBox
import Derived.RangeFuncBound
import Derived.RangeFuncCalls
import Derived.RangeFuncLeaves
import Derived.Shelf.Abstract
import Derived.Shelf.RegionOpen
import Derived.OwnWalkIn
import Derived.TacticsInMore
import Derived.LoopNIn
import Derived.LoopIn
import Derived.Test.YtjikaojffgjndaaGreatDoorShelf
/- The library's slices.Backward over limbs, as a contract for a loop over it: its closure goes through the limbs from the last one to the first. Condition: what a round keeps (KpB): all blocks below a bound but one. -/
namespace Go.Proofs.YtjikaojffgjndaaGreatDoor
open Go.RowKit Go.Shelf Limb
set_option linter.unusedVariables false
attribute [local go_sem] Oper.semAt_some
def KpB (b n : Nat) (A B : World) : Prop := ∀ k, k < n → k ≠ b → B.heap[k]? = A.heap[k]?
theorem KpB.refl (b n : Nat) (A : World) : KpB b n A A := fun _ _ _ => rfl
theorem KpB.trans {b n : Nat} {A B C : World} (h : KpB b n A B) (k : KpB b n B C) : KpB b n A C := fun i h1 h2 => (k i h1 h2).trans (h i h1 h2)
theorem KpB.turn {b n : Nat} {w : World} (hn : n ≤ w.heap.size) (W : World) (l : Nat) (o o' : Obj) (hl : w.heap.size ≤ l) (h : W.heap[l]? = some o) (_ : o.isCells = false) (_ : o.isWalk = false) : KpB b n W (W.putObj l o') :=
 fun k h1 _ => World.putObj_heap_other (by omega)
theorem KpB.cell {b n : Nat} {A B : World} (h : KpB b n A B) {p : Addr} (h1 : p.block < n) (h2 : p.block ≠ b) : B.cell? p = A.cell? p := World.cell?_of_block (h p.block h1 h2)
theorem KpB.below {b n : Nat} {A B : World} (h : Below n A B) (hn : n ≤ A.heap.size) : KpB b n A B := fun k h1 _ => h.block k h1
theorem KpB.set {b n : Nat} {A B : World} (h : KpB b n A B) (v : Value) : KpB b n A (B.setCell ⟨b, 0, none⟩ v) := fun k h1 h2 => by
 rw [← h k h1 h2]
 simp only [World.setCell, Array.getElem?_modify]
 rw [if_neg (fun e => h2 e.symm)]
abbrev Grp := { p : Nat × Nat // p.2 < 1000000000 }
def grpAt (gs : List Nat) (h : ∀ x ∈ gs, x < 1000000000) (k : Nat) : Grp := ⟨(k, lim gs k), by
 show lim gs k < 1000000000
 unfold lim
 rw [List.getD_eq_getElem?_getD]
 rcases Nat.lt_or_ge k gs.length with hk | hk
 · rw [List.getElem?_eq_getElem hk]; exact h _ (List.getElem_mem hk)
 · rw [List.getElem?_eq_none hk]; decide⟩
def downs (gs : List Nat) (h : ∀ x ∈ gs, x < 1000000000) (k : Nat) : List Grp := (List.range k).map fun j => grpAt gs h (gs.length - 1 - j)
theorem downs_succ (gs : List Nat) (h : ∀ x ∈ gs, x < 1000000000) (k : Nat) : downs gs h (k + 1) = downs gs h k ++ [grpAt gs h (gs.length - 1 - k)] := by simp [downs, List.range_succ]
theorem downs_len (gs : List Nat) (h : ∀ x ∈ gs, x < 1000000000) (k : Nat) : (downs gs h k).length = k := by simp [downs]
def cat (l : List Grp) : List Nat := (l.map fun x => pad 9 x.1.2).flatten
theorem cat_snoc (l : List Grp) (x : Grp) : cat (l ++ [x]) = cat l ++ pad 9 x.1.2 := by simp [cat]
theorem cat_len (l : List Grp) : (cat l).length = 9 * l.length := by
 induction l with
 | nil => rfl
 | cons x r ih => simp only [cat, List.map_cons, List.flatten_cons, List.length_append, pad_len, List.length_cons] at ih ⊢; omega
theorem cat_dig (l : List Grp) : allDig (cat l) = true := by
 induction l with
 | nil => rfl
 | cons x r ih => simp only [cat, List.map_cons, List.flatten_cons] at ih ⊢; rw [allDig_append, pad_dig, ih]; rfl
theorem flat_drop (gs : List Nat) (h : ∀ x ∈ gs, x < 1000000000) : ∀ k, k ≤ gs.length → cat (downs gs h k) = flat (gs.drop (gs.length - k))
 | 0, _ => by rw [Nat.sub_zero, List.drop_length]; rfl
 | k + 1, hk => by
  rw [downs_succ, cat_snoc, flat_drop gs h k (by omega)]
  have e : gs.length - (k + 1) < gs.length := by omega
  rw [List.drop_eq_getElem_cons e, flat, show gs.length - (k + 1) + 1 = gs.length - k by omega]
  have e2 : (grpAt gs h (gs.length - 1 - k)).1.2 = gs[gs.length - (k + 1)] := by
   show lim gs _ = _
   rw [show gs.length - 1 - k = gs.length - (k + 1) by omega]
   simp [lim, List.getD_eq_getElem?_getD, List.getElem?_eq_getElem e]
  rw [e2]
theorem cat_downs (gs : List Nat) (h : ∀ x ∈ gs, x < 1000000000) : cat (downs gs h gs.length) = flat gs := by
 rw [flat_drop gs h gs.length (Nat.le_refl _), Nat.sub_self, List.drop_zero]
set_option maxRecDepth 100000 in
set_option maxHeartbeats 2000000 in
theorem back1_in (F : Fence) (n : Nat) (hF : F.fn 147) (hro : F.round = none) (hn : 1 ≤ n) (l Bs Bt n₀ cap : Nat) (A : Option Addr) (gs : List Nat) (hg : ∀ x ∈ gs, x < 1000000000) (hlen : gs.length ≤ 1000000000)
 (hBs : Bs < n₀) (hBst : Bs ≠ Bt) (J Jx : List Grp → World → Prop)
 (hY : ∀ pre x W, J pre W → pre.length < gs.length → YieldAt F (n - 1) Tryz.prog l #[.int .i64 (x.1.1 : Int), .int .u32 (x.1.2 : Int)] W fun e W' =>
   (e = .returned (.bool true) ∧ J (pre ++ [x]) W' ∧ KpB Bt n₀ W W') ∨ (e = .returned (.bool false) ∧ Jx (pre ++ [x]) W'))
 (W : World) (hcB : W.cell? ⟨Bs, 0, none⟩ = some (.slice A gs.length cap)) (hA : 0 < gs.length → ∃ b o, A = some ⟨b, o, none⟩ ∧ b < n₀ ∧ b ≠ Bt ∧ ∀ j, j < gs.length → W.cell? ⟨b, o + j, none⟩ = some (.int .u32 ((lim gs j : Nat) : Int))) (h0 : J [] W) :
 CallsIn F n Tryz.prog 147 #[.func (.yield l) #[] #[], .pointer (some ⟨Bs, 0, none⟩)] W fun e W' => (∃ v, e = .returned v) ∧
  ((∃ ys, ys = downs gs hg gs.length ∧ J ys W') ∨ (∃ pre, (∃ k, k ≤ gs.length ∧ pre = downs gs hg k) ∧ Jx pre W')) := by
 refine callsIn_of_wp Tryz.func147 rfl hF ?_ hro
 simp only [Tryz.ntmps147, List.size_toArray, List.length_cons, List.length_nil, Nat.reduceAdd, Nat.reduceSub, Array.replicate_succ, Array.replicate_zero, List.push_toArray, List.append_toArray, List.nil_append, List.cons_append]
 gi_wp2
 gi_loopw [3] (fun i wr => ∃ k : Nat, k ≤ gs.length ∧ i = .int .i64 ((gs.length : Int) - (k : Int) - 1) ∧ J (downs gs hg k) wr ∧ KpB Bt n₀ W wr)
  (fun i _ => (intOf i + 1).toNat)
 case atStart => exact ⟨0, Nat.zero_le _, by simp, h0, KpB.refl _ _ _⟩
 case round =>
  obtain ⟨k, hk, rfl, hJs, hnx⟩ := hrel
  by_cases hlt : k < gs.length
  · obtain ⟨p, hp⟩ : ∃ p, k + p + 1 = gs.length := ⟨gs.length - 1 - k, by omega⟩
    have ep : (gs.length : Int) - (k : Int) - 1 = (p : Int) := by omega
    obtain ⟨b, o, rfl, hb, hbt, hcs⟩ := hA (by omega)
    have hc1 : wr.cell? ⟨Bs, 0, none⟩ = some (.slice (some ⟨b, o, none⟩) gs.length cap) := (hnx.cell hBs hBst).trans hcB
    have hc2 : wr.cell? ⟨b, o + p, none⟩ = some (.int .u32 ((lim gs p : Nat) : Int)) := (hnx.cell (p := ⟨b, o + p, none⟩) hb hbt).trans (hcs p (by omega))
    obtain ⟨fn, tmps, assign, body, hy, hR⟩ := hY _ (grpAt gs hg (gs.length - 1 - k)) wr hJs (by rw [downs_len]; exact hlt)
    have e1 : ((grpAt gs hg (gs.length - 1 - k)).1.1 : Int) = (p : Int) := by show ((gs.length - 1 - k : Nat) : Int) = _; omega
    have e2 : ((grpAt gs hg (gs.length - 1 - k)).1.2 : Int) = ((lim gs p : Nat) : Int) := by show ((lim gs (gs.length - 1 - k) : Nat) : Int) = _; rw [show gs.length - 1 - k = p by omega]
    rw [e1, e2] at hy
    obtain ⟨d, hd⟩ : ∃ d, lim gs p = d := ⟨_, rfl⟩
    rw [hd] at hy hc2
    rw [ep]
    gi_wp2
    refine hR.mono ?_
    rintro e W3 (⟨rfl, hJ3, hk3⟩ | ⟨rfl, hJx3⟩)
    · gi_wp2
      go_roundw
      case rel => exact ⟨k + 1, by omega, by go_num, by rw [downs_succ]; exact hJ3, hnx.trans hk3⟩
      case measure => simp [intOf] <;> omega
    · gi_wp2
      refine bodyPost_ret (results_none rfl _ _ _) rfl ?_
      exact ⟨⟨_, rfl⟩, .inr ⟨_, ⟨k + 1, by omega, (downs_succ _ _ _).symm⟩, hJx3⟩⟩
  · obtain rfl : k = gs.length := by omega
    gi_wp2
    go_end0
    exact ⟨⟨_, rfl⟩, .inl ⟨_, rfl, hJs⟩⟩
theorem back_in (A : Option Addr) (len cap : Nat) (w : World) :
 Calls Tryz.prog 110 #[.slice A len cap] w fun e w' => e = .returned (.func (.func 147) #[] #[.pointer (some ⟨w.heap.size, 0, none⟩)]) ∧ w' = w.alloc (.cells #[.slice A len cap] 22) := by
 go_enter Tryz.func110, Tryz.ntmps110
 go_wp2
 go_ret
 exact ⟨rfl, rfl⟩
theorem back_stops (F : Fence) (n : Nat) (hF : F.fn 147) (hro : F.round = none) (hn : 1 ≤ n) (Bs Bt n₀ cap : Nat) (A : Option Addr) (gs : List Nat) (hg : ∀ x ∈ gs, x < 1000000000) (hlen : gs.length ≤ 1000000000)
 (w : World) (hBs : Bs < n₀) (hBst : Bs ≠ Bt) (hn₀ : n₀ ≤ w.heap.size) (hcB : w.cell? ⟨Bs, 0, none⟩ = some (.slice A gs.length cap)) (hA : 0 < gs.length → ∃ b o, A = some ⟨b, o, none⟩ ∧ b < n₀ ∧ b ≠ Bt ∧ ∀ j, j < gs.length → w.cell? ⟨b, o + j, none⟩ = some (.int .u32 ((lim gs j : Nat) : Int))) :
 SeqStopsK F n Tryz.prog 147 #[.pointer (some ⟨Bs, 0, none⟩)] (fun x : Grp => #[Value.int .i64 (x.1.1 : Int), Value.int .u32 (x.1.2 : Int)]) (KpB Bt n₀) (fun ys => ys = downs gs hg gs.length)
  (fun pre => ∃ k, k ≤ gs.length ∧ pre = downs gs hg k) gs.length w := fun l J Jx W hW _ _ hY h0 => by
 refine back1_in F n hF hro hn l Bs Bt n₀ cap A gs hg hlen hBs hBst J Jx hY W ((hW.cell (p := ⟨Bs, 0, none⟩) (Nat.lt_of_lt_of_le hBs hn₀)).trans hcB) (fun h => ?_) h0
 obtain ⟨b, o, e, hb, hbt, hc⟩ := hA h
 exact ⟨b, o, e, hb, hbt, fun j hj => (hW.cell (p := ⟨b, o + j, none⟩) (Nat.lt_of_lt_of_le hb hn₀)).trans (hc j hj)⟩
end Go.Proofs.YtjikaojffgjndaaGreatDoor

/- What package digits' Text answers, as a contract over memory, where its table of powers of ten reads as it is laid: the decimal digits of any list of limbs. Condition: the table (Tab), at most 10000 limbs. -/
namespace Go.Proofs.YtjikaojffgjndaaGreatDoor
open Go.RowKit Go.Shelf Limb
set_option linter.unusedVariables false
attribute [local go_sem] Oper.semAt_some
def TextI (n b B : Nat) (w : World) (pre : List Grp) (W : World) : Prop :=
 ((∃ v, Boxed W b 122 v ∧ W.ownsRow n 5 1 v (cat pre).length ((cat pre).map byV) ∧ True) ∧ n ≤ W.heap.size) ∧ Below B w W
theorem ownFrom_size {β : Type} (B n : Nat) : OwnFrom B (fun (_ : β) W => n ≤ W.heap.size) := fun _ _ _ _ hs hg _ => Nat.le_trans hs hg.size
theorem isB_box {W : World} {A : Option Addr} {n b : Nat} {zs : List Nat} {t : TypeId} {A2 : Option Addr} {n2 c2 : Nat} (h : IsB W A n zs) (hb : Boxed W b t (.slice A2 n2 c2)) (u : Value) : IsB (W.setCell ⟨b, 0, none⟩ u) A n zs := by
 refine ⟨h.1, h.2.1, fun hn => ?_⟩
 obtain ⟨g, o, e, hlt, hc⟩ := h.2.2 hn
 have hne : b ≠ g := by
  rintro rfl
  have h1 := hc 0 hn
  unfold Boxed at hb
  simp only [World.cell?, hb] at h1
  rcases o with _ | o
  · simp at h1
  · simp at h1
 refine ⟨g, o, e, by simpa [World.setCell] using hlt, fun j hj => ?_⟩
 rw [World.cell?_setCell_other W ⟨b, 0, none⟩ ⟨g, o + j, none⟩ u (fun e => hne (by injection e))]
 exact hc j hj
set_option maxRecDepth 100000 in
set_option maxHeartbeats 4000000 in
theorem digText_c {A : Option Addr} {n c : Nat} {xs : List Nat} {a L : Nat} {w : World} (T : Tab w) (hx : NN w A n c xs a L) (h1 : L ≤ 10000) (S : ByteArray) (hS : strOf (decT a) = S) :
 Calls Tryz.prog 55 #[.slice A n c] w fun e w' => e = .returned (.string S) ∧ Below w.heap.size w w' := by
 have HT := Lib.hid T
 have HX := Lib.hid hx
 have HS := Lib.hid hS
 clear T hx hS
 refine (callsIn_wide (n := 6)).1 ?_
 refine callsIn_of_wp_marks Tryz.func55 rfl trivial ?_ rfl
 simp only [Tryz.ntmps55, List.size_toArray, List.length_cons, List.length_nil, Nat.reduceAdd, Nat.reduceSub, Array.replicate_succ, Array.replicate_zero, List.push_toArray, List.append_toArray, List.nil_append, List.cons_append]
 have b0 := (Below.refl w.heap.size w).alloc (Nat.le_refl _) (.cells #[.slice none 0 0] 122)
 have HG := Lib.hid (groups_c (HT.out.below b0) (HX.out.below b0) h1)
 clear b0
 gi_wp2_with fail
 refine ⟨trivial, ?_⟩
 refine (callsIn_wide.2 HG.out).mono ?_
 rintro e w2 ⟨A2, n2, c2, gs, rfl, how, hinv, hn2, bn⟩
 have hgl := how.len
 subst hgl
 have hgs := hinv.2.1
 have Hval := Lib.hid hinv.done
 have hlen9 : gs.length ≤ 1000000000 := by omega
 have bB : Boxed (w.alloc (.cells #[.slice none 0 0] 122)) w.heap.size 122 (.slice none 0 0) := Boxed.new w _ _
 have bB2 : Boxed w2 w.heap.size 122 (.slice none 0 0) := (bn.block _ (by simp)).trans bB
 have hsz : w.heap.size + 1 ≤ w2.heap.size := by have := bn.size; simpa using this
 have bw2 : Below w.heap.size w w2 := ((Below.refl w.heap.size w).alloc (Nat.le_refl _) _).trans (bn.mono (by simp))
 have hA : 0 < gs.length → ∃ b o, A2 = some ⟨b, o, none⟩ ∧ b < w2.heap.size + 1 ∧ b ≠ w.heap.size ∧ ∀ j, j < gs.length → (w2.alloc (.cells #[.slice A2 gs.length c2] 22)).cell? ⟨b, o + j, none⟩ = some (.int .u32 ((lim gs j : Nat) : Int)) := fun h => by
  obtain ⟨g, rfl, hBg, hgw⟩ := how.addr h
  simp only [World.size_alloc] at hBg
  refine ⟨g, 0, rfl, by omega, by omega, fun j hj => ?_⟩
  rw [Nat.zero_add]
  exact (Below.cell (p := ⟨g, j, none⟩) (below_new w2 _) hgw).trans (how.cell hj)
 clear how hinv HG bB bn
 gi_wp2_with fail
 refine ⟨trivial, ?_⟩
 refine (callsIn_wide.2 (back_in _ _ _ w2)).mono ?_
 rintro e w3' ⟨rfl, rfl⟩
 have hs3 : (w2.alloc (.cells #[.slice A2 gs.length c2] 22)).heap.size = w2.heap.size + 1 := World.size_alloc _ _
 have hc3 : (w2.alloc (.cells #[.slice A2 gs.length c2] 22)).cell? ⟨w2.heap.size, 0, none⟩ = some (.slice A2 gs.length c2) := (Boxed.new w2 _ _).cell
 have bB3 : Boxed (w2.alloc (.cells #[.slice A2 gs.length c2] 22)) w.heap.size 122 (.slice none 0 0) := bB2.alloc _
 have bw3 : Below w.heap.size w (w2.alloc (.cells #[.slice A2 gs.length c2] 22)) := bw2.alloc (by omega) _
 generalize w2.alloc (.cells #[.slice A2 gs.length c2] 22) = w3 at *
 clear bB2 bw2
 generalize w2.heap.size = s2 at *
 have hst : Below w3.heap.size w3 w3 := Below.refl _ _
 gi_wp2
 refine wpIn_rangeFunc_ownG rfl (by decide) (gf := 147) (lb := #[.pointer (some ⟨s2, 0, none⟩)]) rfl trivial (enters_of Tryz.func147 (by kernel_rfl) rfl)
  (back_stops Fence.wide _ trivial rfl (by decide) s2 w.heap.size w3.heap.size c2 A2 gs hgs hlen9 w3 (by omega) (by omega) (Nat.le_refl _) hc3 (fun h => by obtain ⟨b, o, e1, e2, e3, e4⟩ := hA h; exact ⟨b, o, e1, by omega, e3, e4⟩))
  (fun h k => KpB.trans h k) (KpB.turn (Nat.le_refl _)) (Below.refl _ _) (fun _ => rfl)
  (TextI w3.heap.size w.heap.size w.heap.size w)
  (fun _ _ _ => False)
  (OwnFrom.and (OwnFrom.and (Own.from (holdsRow_own w3.heap.size w.heap.size 122 5 1 (fun pre => (cat pre).length) (fun pre => (cat pre).map byV) (fun _ _ => True)) _) (ownFrom_size _ _)) (ownFrom_below (Nat.le_refl _) (by omega)))
  (fun _ _ _ _ _ hs _ _ => hs)
  ⟨⟨⟨_, bB3, World.ownsRow_nil _ _ _ _, trivial⟩, Nat.le_refl _⟩, bw3⟩
  (fun x => { tmps := #[.slice A n c, undef, .string ⟨#[]⟩, .pointer (some ⟨w.heap.size, 0, none⟩), undef, .int .u32 (x.1.2 : Int), .slice A n c, .slice A2 gs.length c2, .func (.func 147) #[] #[.pointer (some ⟨s2, 0, none⟩)], .int .i64 (x.1.1 : Int), .int .u32 (x.1.2 : Int), undef, undef, undef, undef, undef, undef, undef, undef, undef, undef], defers := [] }) ?assign ?body ?done ?stop
 case assign =>
  intro l x W K hK
  gi_wp2
  exact hK
 case body =>
  rintro l pre x W ⟨⟨⟨v, hv, hrow, _⟩, hsW⟩, hB⟩ hlt
  obtain ⟨A4, c4, rfl, how⟩ := shape_ownB hrow (allDig_bytes (cat_dig pre))
  rw [cat_len] at how hv
  have hc := hv.cell
  have HC := appendGroup_c (HT.out.below hB) how hsW (by have := HT.out.lt; omega) (by omega) x.1.2 x.2
  clear hrow how
  gi_wp2_with fail
  refine ⟨trivial, ?_⟩
  refine (CallsIn.inRound l (callsIn_wide.2 HC)).mono ?_
  rintro e w4 ⟨A5, c5, rfl, hB5, hb5, hk5⟩
  have hv4 : Boxed w4 w.heap.size 122 (.slice A4 (9 * pre.length) c4) := (hb5.block _ (by omega)).trans hv
  have hc4 := hv4.cell
  have hf4 := hv4.frozen
  have e9 : 9 * pre.length + 9 = (cat (pre ++ [x])).length := by rw [cat_len, List.length_append]; simp; omega
  have hrow5 := hB5.1
  rw [← cat_snoc, e9] at hrow5
  clear hc HC
  gi_wp2
  exact ⟨(hk5.trans (KeepsOthers.setCell _ _ _)).from _, (KpB.below hb5 hsW).set _, ⟨⟨_, hv4.set _, hrow5.kept (grownBy_setCell' _ _ _) (.inr (hv4.not_row (by decide) hrow5).symm), trivial⟩, by have := hb5.size; simp [World.setCell]; omega⟩, (hB.trans (hb5.mono (by omega))).setCell (p := ⟨w.heap.size, 0, none⟩) (Nat.le_refl _) _⟩
 case done =>
  rintro D ys W hD rfl ⟨⟨⟨v, hv, hrow, _⟩, hsW⟩, hB⟩ hK
  obtain ⟨A4, c4, rfl, how⟩ := shape_ownB hrow (allDig_bytes (cat_dig _))
  have hcaps := how.caps
  have hc := hv.cell
  have hf := hv.frozen
  have HC := trim0_c how.isB hcaps.1 hcaps.2
  have hd := flat_dig gs
  have hval : decV (flat gs) = a := by rw [flat_val gs hgs, Hval.out]
  clear hrow how hcaps
  generalize (cat (downs gs hgs gs.length)).length = n4 at *
  rw [cat_downs] at HC
  gi_wp2_with fail
  refine ⟨trivial, ?_⟩
  refine (callsIn_wide.2 HC).mono ?_
  rintro e w5 ⟨A6, n6, c6, rfl, hI, rfl⟩
  have hI2 := isB_box hI hv (.slice A6 n6 c6)
  have hK2 := (KeepsOthers.setCell w5 ⟨w.heap.size, 0, none⟩ (.slice A6 n6 c6)).same D _ hK rfl
  have hB2 : Below w.heap.size w (w5.setCell ⟨w.heap.size, 0, none⟩ (.slice A6 n6 c6)) := hB.setCell (p := ⟨w.heap.size, 0, none⟩) (Nat.le_refl _) _
  have hc2 : (w5.setCell ⟨w.heap.size, 0, none⟩ (.slice A6 n6 c6)).cell? ⟨w.heap.size, 0, none⟩ = some (.slice A6 n6 c6) := (hv.set _).cell
  by_cases h0 : n6 = 0
  · have hz : S = ⟨#[48]⟩ := by
     have h3 : bare (flat gs) = [] := List.eq_nil_of_length_eq_zero (by rw [hI.1, h0])
     have h4 := (bare_nil hd).1 h3
     rw [hval] at h4
     rw [← HS.out, h4]; rfl
    subst h0
    clear hI hI2 HC hd hval
    gi_wp2
    refine ⟨by simp, .inl ⟨_, _, rfl, run_takeDeferred hK2, ?_⟩⟩
    exact ⟨_, results_tmp rfl _ _ _, by rw [hz]; rfl, hB2.trans (belowK_b (w := w) (Nat.le_refl _) _ D _ _ (by omega) hK2 rfl rfl)⟩
  · have hz : strOf (bare (flat gs)) = S := by
     have h3 : bare (flat gs) ≠ [] := fun e => h0 (by rw [← hI.1, e]; rfl)
     rw [bare_dec hd h3, hval, HS.out]
    have hconv := run_text hI2 (c := c6) (by omega)
    rw [hz] at hconv
    clear hI hI2 HC hd hval
    have h00 : ((n6 : Int) == 0) = false := by simp; omega
    gi_wp2
    refine ⟨by simp, .inl ⟨_, _, rfl, run_takeDeferred hK2, ?_⟩⟩
    exact ⟨_, results_tmp rfl _ _ _, rfl, hB2.trans (belowK_b (w := w) (Nat.le_refl _) _ D _ _ (by omega) hK2 rfl rfl)⟩
 case stop =>
  rintro D c pre W _ _ h _
  exact h.elim
end Go.Proofs.YtjikaojffgjndaaGreatDoor

/- What package decimal's point tells, as a contract over memory. Conditions: numbers of at most 699 digits; the table of powers of ten. -/
namespace Go.Proofs.YtjikaojffgjndaaGreatDoor
open Go.RowKit Limb
set_option linter.unusedVariables false
theorem row_step {i K : Nat} (hi : i < 700) : (List.replicate i 48 ++ List.replicate (700 - i) 0).set i 48 = List.replicate (i + 1) 48 ++ List.replicate (700 - (i + 1)) 0 := by
 rw [List.set_append_right _ _ (by rw [List.length_replicate]; exact Nat.le_refl _), List.length_replicate, Nat.sub_self, show 700 - i = (700 - (i + 1)) + 1 by omega, List.replicate_succ, List.set_cons_zero, List.replicate_succ', List.append_assoc]
 rfl
theorem list_at0 (l Z : List Nat) : l ++ Z.drop l.length = Z.take 0 ++ (l ++ Z.drop (0 + l.length)) := by rw [Nat.zero_add]; rfl
theorem row_copied {K p : Nat} {l : List Nat} (hk : K = p + 1 - l.length) (h : K + l.length ≤ 700) : ∃ R, (List.replicate K 48 ++ List.replicate (700 - K) 0).take K ++ (l ++ (List.replicate K 48 ++ List.replicate (700 - K) 0).drop (K + l.length)) = padL p l ++ R := by
 refine ⟨(List.replicate K 48 ++ List.replicate (700 - K) 0).drop (K + l.length), ?_⟩
 unfold padL
 rw [← hk, List.take_append_of_le_length (by rw [List.length_replicate]; exact Nat.le_refl _), List.take_of_length_le (by rw [List.length_replicate]; exact Nat.le_refl _), List.append_assoc]
theorem part_head {x : Int} {p M h : Nat} {R : List Nat} (hM : (padL p (decT x.natAbs)).length = M) (hh : h + p = M) : ((padL p (decT x.natAbs) ++ R).drop 0).take h = headL x p := by
 unfold headL
 rw [List.drop_zero, List.take_append_of_le_length (by omega), hM]
 congr 1; omega
theorem part_tail {x : Int} {p M h : Nat} {R : List Nat} (hM : (padL p (decT x.natAbs)).length = M) (hh : h + p = M) : ((padL p (decT x.natAbs) ++ R).drop h).take p = tailL x p := by
 unfold tailL
 rw [List.drop_append_of_le_length (by omega), hM, show M - p = h by omega]
 rw [List.take_append_of_le_length (by rw [List.length_drop]; omega)]
 exact List.take_of_length_le (by rw [List.length_drop]; omega)
theorem point_whole0 {x : Int} {p : Nat} {b : Bool} (hb : sg x = b) (h0 : p = 0) : strOf (litSg b) ++ strOf (headL x p) = strOf (pointT x p) := by
 subst hb; subst h0
 unfold pointT
 rw [if_pos rfl, strOf_append]
 unfold headL
 rw [Nat.sub_zero, List.take_length]
theorem point_parts {x : Int} {p : Nat} {b : Bool} (hb : sg x = b) (h0 : p ≠ 0) : strOf (litSg b) ++ strOf (headL x p) ++ ((⟨#[46]⟩ : ByteArray) ++ strOf (tailL x p)) = strOf (pointT x p) := by
 subst hb
 unfold pointT
 rw [if_neg h0, show (⟨#[46]⟩ : ByteArray) = strOf [46] from rfl, strOf_append, strOf_append, strOf_append, List.append_assoc]
 rfl
theorem nil_text (X : ByteArray) : strOf [] ++ X = X := by
 rw [← strOf_bytesOf X, strOf_append]; rfl
section
variable {w : World} {s s' : Bool} {A B A' B' : Option Addr} {n c m d n' c' m' d' : Nat} {xs ys xs' ys' : List Nat} {x y z : Int} {q : Rat} {l : Nat} {a b L L' : Nat}
set_option maxHeartbeats 4000000 in
set_option maxRecDepth 100000 in
theorem dPoint_c (hx : ZZ w (sg x) A n c xs x L) (h1 : L ≤ 1000) (T : Tab w) (p : Nat) (hp : p ≤ 60) (hl : (decT x.natAbs).length ≤ 699) (S : ByteArray) (hS : strOf (pointT x p) = S) :
 Calls Tryz.prog 103 #[.agg #[.bool (sg x), .slice A n c], .int .i64 (p : Int)] w fun e w' => e = .returned (.string S) ∧ Below w.heap.size w w' := by
 obtain ⟨D, hD⟩ : ∃ D, strOf (decT x.natAbs) = D := ⟨_, rfl⟩
 have hBD : bytesOf D = decT x.natAbs := by rw [← hD, bytesOf_strOf (decT_bytes _)]
 have hDs : D.size = (decT x.natAbs).length := by rw [← hD, size_strOf]
 have hd1 : 1 ≤ (decT x.natAbs).length := by
  rcases Nat.eq_zero_or_pos (decT x.natAbs).length with h | h
  · exact absurd (List.eq_nil_of_length_eq_zero h) (decT_ne _)
  · exact h
 have hPl := padL_len p (decT x.natAbs)
 rw [← hDs] at hPl
 have HPl := Lib.hid hPl
 have HBD := Lib.hid hBD
 have HDs := Lib.hid hDs
 have HD := Lib.hid hD
 have HS := Lib.hid hS
 have b0 := below_new w (.cells #[Value.bool (sg x), Value.slice A n c] 25)
 have HW := Lib.hid b0
 have HN := Lib.hid (hx.nn.below b0)
 have HT := Lib.hid (T.below b0)
 have HR0 := Lib.hid (row2_new w 25 (.bool (sg x)) (.slice A n c))
 have hD1 : 1 ≤ D.size := by omega
 have hD7 : D.size ≤ 699 := by omega
 clear b0 hx hS hD T hBD hDs hd1 hPl hl
 by_cases hc : D.size ≤ p
 · obtain ⟨M, hM⟩ : ∃ M, M = p + 1 := ⟨_, rfl⟩
   obtain ⟨K, hK⟩ : ∃ K, K + D.size = M := ⟨M - D.size, by omega⟩
   have eM : (p : Int) + 1 = (M : Int) := by omega
   have eK : (M : Int) - (D.size : Int) = (K : Int) := by omega
   have hmx : (D.size : Int) < (M : Int) := by omega
   have hme : max (D.size : Int) (M : Int) = (M : Int) := by omega
   have hM7 : M ≤ 700 := by omega
   have hMi : (M : Int) ≤ 700 := by omega
   have HMK : RowKit.Hid (K + D.size = M ∧ M = p + 1) := ⟨hK, hM⟩
   clear hc hM hK
   go_enter Tryz.func103, Tryz.ntmps103
   have c01 := HR0.out.c1
   go_wp2_with fail
   clear c01
   generalize w.alloc (.cells #[Value.bool (sg x), Value.slice A n c] 25) = w1 at *
   refine (digText_c HT.out HN.out (by omega) D HD.out).mono ?_
   rintro e w2 ⟨rfl, bn⟩
   replace HR0 := Lib.hid (HR0.out.below bn)
   replace HW := Lib.hid (below_two HW.out bn)
   have hcut := fun W => cut700 w2.heap.size M hM7 (M : Int) rfl W
   have HA0 := Lib.hid (arrB_new w2)
   have HB0 := Lib.hid (below_new w2 (.cells Tryz.zeroCells146 146))
   clear bn HN HT
   go_wp2
   clear hcut
   generalize w2.alloc (.cells Tryz.zeroCells146 146) = w3 at *
   go_loopw [9, 26] (fun jv iv wr => ∃ i : Nat, i ≤ K ∧ iv = .int .i64 (i : Int) ∧ RowKit.Hid (ArrB wr w2.heap.size (List.replicate i 48 ++ List.replicate (700 - i) 0)) ∧ RowKit.Hid (Below w2.heap.size w2 wr)) (fun _ iv _ => K - (intOf iv).toNat)
   case atStart => exact ⟨0, Nat.zero_le _, rfl, HA0.out, HB0.out⟩
   case round =>
    clear HA0 HB0
    obtain ⟨i, hi, rfl, HA, HB⟩ := hrel
    by_cases hlt : i < K
    · have h1 : (i : Int) < (K : Int) := by omega
      have hi0 : (0 : Int) ≤ (i : Int) := by omega
      have hiM : (i : Int) < (M : Int) := by omega
      have cI := HA.out.cell (k := i) (by omega)
      have fI := HA.out.free i
      have HA2 : RowKit.Hid (ArrB (wr.setCell ⟨w2.heap.size, i, none⟩ (.int .u8 48)) w2.heap.size (List.replicate (i + 1) 48 ++ List.replicate (700 - (i + 1)) 0)) := by
       show ArrB _ _ _
       rw [← row_step (K := 0) (by omega)]; exact HA.out.set i (v := 48) (by decide)
      have HB2 : RowKit.Hid (Below w2.heap.size w2 (wr.setCell ⟨w2.heap.size, i, none⟩ (.int .u8 48))) := HB.out.setCell (by exact Nat.le_refl _) _
      go_wp2
      go_roundw
      case rel => exact ⟨i + 1, by omega, rfl, HA2.out, HB2.out⟩
      case measure => show K - (((i + 1 : Nat) : Int)).toNat < K - ((i : Nat) : Int).toNat; omega
    · obtain ⟨hK, hM⟩ := HMK.out
      have h1 : ¬ (i : Int) < (K : Int) := by omega
      obtain rfl : K = i := by omega
      have HR5p : RowKit.Hid (∀ w5, Below w2.heap.size wr w5 → Row2 w5 w.heap.size 25 (.bool (sg x)) (.slice A n c)) := fun w5 hb => HR0.out.below (HB.out.trans hb)
      have HGe : RowKit.Hid (w.heap.size ≤ w2.heap.size) := HW.out.size
      replace HW := Lib.hid (below_two HW.out HB.out)
      clear hlt hi HR0
      have Hlen : RowKit.Hid (D.size ≤ M - K ∧ K + D.size ≤ 700) := by show _ ∧ _; omega
      have k0 : (0 : Int) ≤ (K : Int) := by omega
      have kM : (K : Int) ≤ (M : Int) := by omega
      have k7 : ¬ 700 = K := by omega
      have k8 : ¬ K = 700 := by omega
      clear hK hM
      obtain ⟨Z, hZ⟩ : ∃ Z, Z = (List.replicate K 48 ++ List.replicate (700 - K) 0) := ⟨_, rfl⟩
      rw [← hZ] at HA
      have HZr := Lib.hid hZ
      clear hZ
      go_wp2_with (with_reducible refine wpList_copy_text rfl (.tmp 35) (.tmp 36) rfl w2.heap.size K (M - K) (700 - K) D rfl rfl Z HA Hlen ?_)
      intro w4 HA4 HB4
      clear k0 kM k7 k8 h1 HA Hlen HB
      have HB5 := Lib.hid (HB4.out _ _ HGe.out HW.out)
      have HR5 : RowKit.Hid (Row2 w4 w.heap.size 25 (.bool (sg x)) (.slice A n c)) := HR5p.out _ (HB4.out _ _ (Nat.le_refl _) (Below.refl _ _))
      obtain ⟨hK, hM⟩ := HMK.out
      have hPl := HPl.out
      have hDs := HDs.out
      obtain ⟨R, hR⟩ := row_copied (K := K) (p := p) (l := decT x.natAbs) (by omega) (by omega)
      have HA5 : RowKit.Hid (ArrB w4 w2.heap.size (padL p (decT x.natAbs) ++ R)) := by
       have h := HA4.out
       rw [HZr.out, HBD.out, HDs.out] at h
       rw [← hR]; exact h
      clear HA4 HB4 HR5p hR
      obtain ⟨h, hh⟩ : ∃ h, h + p = M := ⟨M - p, by omega⟩
      have HPM : RowKit.Hid ((padL p (decT x.natAbs)).length = M) := by show _ = _; omega
      have eh : (M : Int) - (p : Int) = (h : Int) := by omega
      have hh1 : 0 < h := by omega
      have hh0 : (0 : Int) ≤ (h : Int) := by omega
      have hhM : (h : Int) ≤ (M : Int) := by omega
      have hh7 : (h : Int) ≤ 700 := by omega
      have hhl : h ≤ 700 := by omega
      obtain ⟨X, hX⟩ : ∃ X, strOf (headL x p) = X := ⟨_, rfl⟩
      obtain ⟨Y, hY⟩ : ∃ Y, strOf (tailL x p) = Y := ⟨_, rfl⟩
      have qX : (convert 122 9 (.slice (some ⟨w2.heap.size, 0, none⟩) h 700)).run Tryz.prog w4 = .ok (.string X) w4 := by
       have h9 := run_text (c := 700) (HA5.out.isB 0 h (by omega)) hh1
       rw [part_head HPM.out hh, hX] at h9
       exact h9
      have zX : X.size ≤ 700 := by
       rw [← hX, size_strOf]; unfold headL; rw [List.length_take]; have := HPM.out; omega
      have zY : Y.size ≤ 700 := by
       rw [← hY, size_strOf]; unfold tailL; rw [List.length_drop]; have := HPM.out; omega
      have HH : RowKit.Hid (h + p = M) := hh
      clear hK hPl hDs hM
      cases hs : sg x with
      | false =>
       have c00 := HR5.out.c0
       rw [hs] at c00
       by_cases h0 : p = 0
       · exfalso
         obtain ⟨h8, h9⟩ := HMK.out
         omega
       · have g0 : (0 : Int) < (p : Int) := by omega
         have HE : RowKit.Hid (X ++ ((⟨#[46]⟩ : ByteArray) ++ Y) = S) := by
          show _ = _
          rw [← HS.out, ← point_parts hs h0, hX, hY]
          show _ = strOf [] ++ X ++ _
          rw [nil_text]
         have qY : (convert 122 9 (.slice (some ⟨w2.heap.size, h, none⟩) (M - h) (700 - h))).run Tryz.prog w4 = .ok (.string Y) w4 := by
          have h9 := run_text (c := 700 - h) (HA5.out.isB h p (by omega)) (by omega)
          rw [part_tail HPM.out hh, hY] at h9
          rw [show M - h = p by omega]; exact h9
         have hhn : ¬ 700 = h := by omega
         have hhm : ¬ h = 700 := by omega
         clear hs h0 hX hY hh
         go_wp2
         go_ret
         exact ⟨by rw [← HE.out]; rfl, HB5.out⟩
      | true =>
       have c00 := HR5.out.c0
       rw [hs] at c00
       by_cases h0 : p = 0
       · exfalso
         obtain ⟨h8, h9⟩ := HMK.out
         omega
       · have g0 : (0 : Int) < (p : Int) := by omega
         have HE : RowKit.Hid ((⟨#[45]⟩ : ByteArray) ++ X ++ ((⟨#[46]⟩ : ByteArray) ++ Y) = S) := by
          show _ = _
          rw [← HS.out, ← point_parts hs h0, hX, hY]; rfl
         have qY : (convert 122 9 (.slice (some ⟨w2.heap.size, h, none⟩) (M - h) (700 - h))).run Tryz.prog w4 = .ok (.string Y) w4 := by
          have h9 := run_text (c := 700 - h) (HA5.out.isB h p (by omega)) (by omega)
          rw [part_tail HPM.out hh, hY] at h9
          rw [show M - h = p by omega]; exact h9
         have hhn : ¬ 700 = h := by omega
         have hhm : ¬ h = 700 := by omega
         clear hs h0 hX hY hh
         go_wp2
         go_ret
         exact ⟨by rw [← HE.out]; rfl, HB5.out⟩
 · have hmx : (p : Int) + 1 ≤ (D.size : Int) := by omega
   have hme : max (D.size : Int) ((p : Int) + 1) = (D.size : Int) := by omega
   have hM7 : D.size ≤ 700 := by omega
   have hMi : (D.size : Int) ≤ 700 := by omega
   have HMK : RowKit.Hid (p + 1 ≤ D.size) := by show _ ≤ _; omega
   clear hc
   go_enter Tryz.func103, Tryz.ntmps103
   have c01 := HR0.out.c1
   go_wp2_with fail
   clear c01
   generalize w.alloc (.cells #[Value.bool (sg x), Value.slice A n c] 25) = w1 at *
   refine (digText_c HT.out HN.out (by omega) D HD.out).mono ?_
   rintro e w2 ⟨rfl, bn⟩
   replace HR0 := Lib.hid (HR0.out.below bn)
   replace HW := Lib.hid (below_two HW.out bn)
   have hcut := fun W => cut700 w2.heap.size D.size hM7 (D.size : Int) rfl W
   have HA0 := Lib.hid (arrB_new w2)
   have HB0 := Lib.hid (below_new w2 (.cells Tryz.zeroCells146 146))
   clear bn HN HT
   go_wp2
   clear hcut
   generalize w2.alloc (.cells Tryz.zeroCells146 146) = w3 at *
   go_loopw [9, 26] (fun jv iv wr => ∃ i : Nat, i ≤ 0 ∧ iv = .int .i64 (i : Int) ∧ RowKit.Hid (ArrB wr w2.heap.size (List.replicate i 48 ++ List.replicate (700 - i) 0)) ∧ RowKit.Hid (Below w2.heap.size w2 wr)) (fun _ iv _ => 0 - (intOf iv).toNat)
   case atStart => exact ⟨0, Nat.zero_le _, rfl, HA0.out, HB0.out⟩
   case round =>
    clear HA0 HB0
    obtain ⟨i, hi, rfl, HA, HB⟩ := hrel
    by_cases hlt : i < 0
    · exact absurd hlt (Nat.not_lt_zero _)
    · have hK := HMK.out
      have h1 : ¬ (i : Int) < (0 : Int) := by omega
      obtain rfl : i = 0 := by omega
      have HR5p : RowKit.Hid (∀ w5, Below w2.heap.size wr w5 → Row2 w5 w.heap.size 25 (.bool (sg x)) (.slice A n c)) := fun w5 hb => HR0.out.below (HB.out.trans hb)
      have HGe : RowKit.Hid (w.heap.size ≤ w2.heap.size) := HW.out.size
      replace HW := Lib.hid (below_two HW.out HB.out)
      clear hlt hi HR0
      have Hlen : RowKit.Hid (D.size ≤ D.size ∧ 0 + D.size ≤ 700) := by show _ ∧ _; omega
      have k0 : (0 : Int) ≤ (0 : Int) := by omega
      have kM : (0 : Int) ≤ (D.size : Int) := by omega
      have k7 : ¬ 700 = 0 := by omega
      have k8 : ¬ 0 = 700 := by omega
      clear hK
      obtain ⟨Z, hZ⟩ : ∃ Z, Z = (List.replicate 0 48 ++ List.replicate (700 - 0) 0) := ⟨_, rfl⟩
      rw [← hZ] at HA
      have HZr := Lib.hid hZ
      clear hZ
      go_wp2_with (with_reducible refine wpList_copy_text rfl (.tmp 35) (.tmp 36) rfl w2.heap.size 0 (D.size) (700) D rfl rfl Z HA Hlen ?_)
      intro w4 HA4 HB4
      clear k0 kM k7 k8 h1 HA Hlen HB
      have HB5 := Lib.hid (HB4.out _ _ HGe.out HW.out)
      have HR5 : RowKit.Hid (Row2 w4 w.heap.size 25 (.bool (sg x)) (.slice A n c)) := HR5p.out _ (HB4.out _ _ (Nat.le_refl _) (Below.refl _ _))
      have hK := HMK.out
      have hPl := HPl.out
      have hDs := HDs.out
      obtain ⟨R, hR⟩ := row_copied (K := 0) (p := p) (l := decT x.natAbs) (by omega) (by omega)
      have HA5 : RowKit.Hid (ArrB w4 w2.heap.size (padL p (decT x.natAbs) ++ R)) := by
       have h := HA4.out
       rw [HZr.out, HBD.out, HDs.out, list_at0] at h
       rw [← hR]; exact h
      clear HA4 HB4 HR5p hR
      obtain ⟨h, hh⟩ : ∃ h, h + p = D.size := ⟨D.size - p, by omega⟩
      have HPM : RowKit.Hid ((padL p (decT x.natAbs)).length = D.size) := by show _ = _; omega
      have eh : (D.size : Int) - (p : Int) = (h : Int) := by omega
      have hh1 : 0 < h := by omega
      have hh0 : (0 : Int) ≤ (h : Int) := by omega
      have hhM : (h : Int) ≤ (D.size : Int) := by omega
      have hh7 : (h : Int) ≤ 700 := by omega
      have hhl : h ≤ 700 := by omega
      obtain ⟨X, hX⟩ : ∃ X, strOf (headL x p) = X := ⟨_, rfl⟩
      obtain ⟨Y, hY⟩ : ∃ Y, strOf (tailL x p) = Y := ⟨_, rfl⟩
      have qX : (convert 122 9 (.slice (some ⟨w2.heap.size, 0, none⟩) h 700)).run Tryz.prog w4 = .ok (.string X) w4 := by
       have h9 := run_text (c := 700) (HA5.out.isB 0 h (by omega)) hh1
       rw [part_head HPM.out hh, hX] at h9
       exact h9
      have zX : X.size ≤ 700 := by
       rw [← hX, size_strOf]; unfold headL; rw [List.length_take]; have := HPM.out; omega
      have zY : Y.size ≤ 700 := by
       rw [← hY, size_strOf]; unfold tailL; rw [List.length_drop]; have := HPM.out; omega
      have HH : RowKit.Hid (h + p = D.size) := hh
      clear hK hPl hDs
      cases hs : sg x with
      | false =>
       have c00 := HR5.out.c0
       rw [hs] at c00
       by_cases h0 : p = 0
       · have g0 : ¬ (0 : Int) < (p : Int) := by omega
         have HE : RowKit.Hid (X = S) := by
          show _ = _
          rw [← HS.out, ← point_whole0 hs h0, hX]
          show _ = strOf [] ++ X
          exact (nil_text X).symm
         clear hs h0 hX hY hh
         go_wp2
         go_ret
         exact ⟨by rw [← HE.out]; rfl, HB5.out⟩
       · have g0 : (0 : Int) < (p : Int) := by omega
         have HE : RowKit.Hid (X ++ ((⟨#[46]⟩ : ByteArray) ++ Y) = S) := by
          show _ = _
          rw [← HS.out, ← point_parts hs h0, hX, hY]
          show _ = strOf [] ++ X ++ _
          rw [nil_text]
         have qY : (convert 122 9 (.slice (some ⟨w2.heap.size, h, none⟩) (D.size - h) (700 - h))).run Tryz.prog w4 = .ok (.string Y) w4 := by
          have h9 := run_text (c := 700 - h) (HA5.out.isB h p (by omega)) (by omega)
          rw [part_tail HPM.out hh, hY] at h9
          rw [show D.size - h = p by omega]; exact h9
         have hhn : ¬ 700 = h := by omega
         have hhm : ¬ h = 700 := by omega
         clear hs h0 hX hY hh
         go_wp2
         go_ret
         exact ⟨by rw [← HE.out]; rfl, HB5.out⟩
      | true =>
       have c00 := HR5.out.c0
       rw [hs] at c00
       by_cases h0 : p = 0
       · have g0 : ¬ (0 : Int) < (p : Int) := by omega
         have HE : RowKit.Hid ((⟨#[45]⟩ : ByteArray) ++ X = S) := by
          show _ = _
          rw [← HS.out, ← point_whole0 hs h0, hX]; rfl
         clear hs h0 hX hY hh
         go_wp2
         go_ret
         exact ⟨by rw [← HE.out]; rfl, HB5.out⟩
       · have g0 : (0 : Int) < (p : Int) := by omega
         have HE : RowKit.Hid ((⟨#[45]⟩ : ByteArray) ++ X ++ ((⟨#[46]⟩ : ByteArray) ++ Y) = S) := by
          show _ = _
          rw [← HS.out, ← point_parts hs h0, hX, hY]; rfl
         have qY : (convert 122 9 (.slice (some ⟨w2.heap.size, h, none⟩) (D.size - h) (700 - h))).run Tryz.prog w4 = .ok (.string Y) w4 := by
          have h9 := run_text (c := 700 - h) (HA5.out.isB h p (by omega)) (by omega)
          rw [part_tail HPM.out hh, hY] at h9
          rw [show D.size - h = p by omega]; exact h9
         have hhn : ¬ 700 = h := by omega
         have hhm : ¬ h = 700 := by omega
         clear hs h0 hX hY hh
         go_wp2
         go_ret
         exact ⟨by rw [← HE.out]; rfl, HB5.out⟩
end
end Go.Proofs.YtjikaojffgjndaaGreatDoor

/- What package digits' Parse and Ten answer, as contracts over memory, where its table of powers of ten reads as it is laid. Condition: the table (Tab). -/
namespace Go.Proofs.YtjikaojffgjndaaGreatDoor
open Go.RowKit Limb
set_option linter.unusedVariables false
theorem bytesOf_extract (s : ByteArray) (i j : Nat) : bytesOf (s.extract i j) = ((bytesOf s).drop i).take (j - i) := by
 unfold bytesOf
 rw [ByteArray.data_extract, Array.toList_extract, List.extract_eq_take_drop, List.map_take, List.map_drop]
theorem readUint_yes (s : ByteArray) (w : World) (h0 : 1 ≤ s.size) (h9 : s.size ≤ 9) (h : allDig (bytesOf s) = true) (v : Nat) (hv : decV (bytesOf s) = v) :
 Calls Tryz.prog 95 #[.string s, .int .i64 10, .int .i64 32] w fun e w' => e = .returned (.tuple #[.int .u64 (v : Int), .nilIface]) ∧ Below w.heap.size w w' := by
 have hl : (s.data.toList : List UInt8) ≠ [] := by
  intro e
  have : s.size = 0 := by show s.data.size = 0; rw [← Array.length_toList, e]; rfl
  omega
 have hs : s.data.toList.length = s.size := Array.length_toList
 have hp := parseB_yes hl (by rw [hs]; exact h9) h
 refine (Any.strconv_ParseUint_10_at32_ok Tryz.laysPu14 s (by omega) (decV (bytesOf s)) hp w).mono ?_
 rintro e w' ⟨rfl, hW⟩
 rw [hv]
 refine ⟨rfl, ?_⟩
 rcases hW with rfl | rfl
 · exact Below.refl _ _
 · exact Lib.bytesWorld_below _ _ _
theorem readUint_no (s : ByteArray) (w : World) (T : Tab w) (h9 : s.size ≤ 9) (h : allDig (bytesOf s) = false) :
 Calls Tryz.prog 95 #[.string s, .int .i64 10, .int .i64 32] w fun e w' => ∃ t p, e = .returned (.tuple #[.int .u64 0, .iface t (.pointer (some p))]) ∧ Below w.heap.size w w' := by
 have hs : s.data.toList.length = s.size := Array.length_toList
 have hp := parseB_no (l := s.data.toList) (by rw [hs]; exact h9) h
 obtain ⟨te, pe, he⟩ := T.2
 refine (Any.strconv_ParseUint_10_at32_syntax Tryz.laysPu14 s (by omega) hp _ w he (.inr ⟨te, pe, rfl⟩)).mono ?_
 rintro e w' ⟨N, rfl, _, _, hb⟩
 exact ⟨_, _, rfl, hb⟩
theorem ten_limb {k : Nat} (h : k ≤ 9) : 10 ^ k < 4294967296 := Nat.lt_of_le_of_lt (Nat.pow_le_pow_right (by decide) h) (by decide)
theorem powV_tens {m : Nat} (h : m ≤ 222) : powV 1000000000 (m : Int) = some (1000000000 ^ m) := by
 refine powV_small ?_ fun k hk => ?_
 · exact blen_le (by exact Nat.lt_of_le_of_lt h (by decide))
 · rw [show (1000000000 : Nat) = 10 ^ 9 from rfl, ← Nat.pow_mul]
   exact dec_room_lt (by omega)
theorem powTens {w : World} {A : Option Addr} {n c : Nat} {xs : List Nat} {L : Nat} (hx : NN w A n c xs 1000000000 L) (h1 : L ≤ 10000000) {q : Nat} (hq : q ≤ 222) :
 Calls Tryz.prog 80 #[.slice A n c, .int .i64 (q : Int)] w fun e w' => ∃ A2 n2 c2, e = .returned (.tuple #[.slice A2 n2 c2, .bool true]) ∧ NN w' A2 n2 c2 (limbs (1000000000 ^ q)) (1000000000 ^ q) 256 ∧ Below w.heap.size w w' := by
 have := mulPow_c hx h1 (q : Int) (by omega) (by omega) _ (powV_tens hq)
 exact this
set_option maxHeartbeats 2000000 in
set_option maxRecDepth 4000 in
theorem digTen_yes (n : Nat) (V : Int) (hV : V = n) (h1 : n ≤ 2000) (w : World) (T : Tab w) :
 Calls Tryz.prog 30 #[.int .i64 V] w fun e w' => ∃ A1 n1 c1, e = .returned (.tuple #[.slice A1 n1 c1, .bool true]) ∧ NN w' A1 n1 c1 (limbs (10 ^ n)) (10 ^ n) 223 ∧ Below w.heap.size w w' := by
 subst hV
 obtain ⟨q, hq⟩ : ∃ q, q = n / 9 := ⟨_, rfl⟩
 obtain ⟨r, hr⟩ : ∃ r, r = n % 9 := ⟨_, rfl⟩
 have eq1 : (n : Int) / 9 = (q : Int) := by omega
 have er1 : (n : Int) % 9 = (r : Int) := by omega
 have hq2 : q ≤ 222 := by omega
 have hr2 : r < 9 := by omega
 have HE : RowKit.Hid (1000000000 ^ q * 10 ^ r = 10 ^ n) := by
  show _ = _
  rw [show (1000000000 : Nat) = 10 ^ 9 from rfl, ← Nat.pow_mul, ← Nat.pow_add]
  congr 1
  omega
 have HL : RowKit.Hid (10 ^ n < 4294967296 ^ 223) := dec_room_lt (by omega)
 have hc9 : w.cell? ⟨0, 9, none⟩ = some (.int .u32 1000000000) := T.1 9 (by decide)
 have HT := Lib.hid T
 clear T hq hr
 go_enter Tryz.func30, Tryz.ntmps30
 go_wp2_with fail
 refine (of_c 1000000000 _ rfl (by decide) w).mono ?_
 rintro e w1 ⟨A1, n1, c1, rfl, ha, bn⟩
 have HA := Lib.hid ha
 have HW := Lib.hid bn
 clear hc9 ha bn
 go_wp2_with fail
 refine (powTens HA.out (by decide) hq2).mono ?_
 rintro e w2 ⟨A2, n2, c2, rfl, hb, bn⟩
 have HB := Lib.hid hb
 have HW2 := Lib.hid (below_two HW.out bn)
 have hcr := (HT.out.below HW2.out).1 r (by omega)
 obtain ⟨p, hp⟩ : ∃ p, p = 10 ^ r := ⟨_, rfl⟩
 have hpl : p < 4294967296 := by rw [hp]; exact ten_limb (by omega)
 rw [← hp] at hcr
 have HP := Lib.hid hp
 clear hb bn hp HA HW
 go_wp2_with fail
 refine (mulSmall_c HB.out p _ rfl hpl (by decide)).mono ?_
 rintro e w3 ⟨A3, n3, c3, rfl, hm, bn⟩
 have HM : RowKit.Hid (NN w3 A3 n3 c3 (limbs (10 ^ n)) (10 ^ n) 223) := by
  show NN _ _ _ _ _ _ _
  rw [HP.out, HE.out] at hm
  exact hm.relax HL.out
 have HW3 := Lib.hid (below_two HW2.out bn)
 clear hm bn HB HW2 hcr
 go_wp2
 go_ret2
 exact ⟨A3, n3, c3, rfl, HM.out, HW3.out⟩
def strLen (v : Value) : Nat := match v with
 | .string s => s.size
 | _ => 0
theorem numOk_part {l : List Nat} {i k : Nat} (h : allDig ((l.drop i).take k) = false) : numOk l = false := by
 have h2 : allDig l = false := by
  rw [Bool.eq_false_iff]
  intro h3
  have h4 : allDig ((l.drop i).take k) = true := allDig_iff.2 fun x hx => allDig_iff.1 h3 x (List.mem_of_mem_drop (List.mem_of_mem_take hx))
  rw [h] at h4; cases h4
 unfold numOk
 rw [h2]; simp
set_option maxHeartbeats 4000000 in
set_option maxRecDepth 4000 in
theorem digParse_c (s : ByteArray) (w : World) (T : Tab w) (v : Bool) (hv : numOk (bytesOf s) = v) (m : Nat) (hm : numV (bytesOf s) = m) :
 Calls Tryz.prog 45 #[.string s] w fun e w' => ∃ A1 n1 c1, e = .returned (.tuple #[.slice A1 n1 c1, .bool v]) ∧ NN w' A1 n1 c1 (limbs m) m 223 ∧ Below w.heap.size w w' := by
 have HT := Lib.hid T
 have HV := Lib.hid hv
 have HM := Lib.hid hm
 have hl := length_bytesOf s
 have HL := Lib.hid hl
 clear T hv hm hl
 by_cases h0 : s.size = 0 ∨ 2000 < s.size
 · have hno : numOk (bytesOf s) = false := numOk_len (by rw [HL.out]; exact h0)
   have hr : RowKit.Hid (v = false ∧ limbs m = [] ∧ m = 0) := by
    have h3 : m = 0 := by rw [← HM.out]; exact numV_no hno
    exact ⟨by rw [← HV.out, hno], by rw [h3]; exact limbs_zero, h3⟩
   clear hno
   rcases h0 with h0 | h0
   · have h00 : ((s.size : Int) == 0) = true := by rw [beq_iff_eq]; omega
     go_enter Tryz.func45, Tryz.ntmps45
     go_wp2
     go_ret2
     obtain ⟨rfl, h4, h5⟩ := hr.out
     exact ⟨none, 0, 0, rfl, by rw [h4, h5]; exact ⟨IsN.nil _ _, rfl, Nat.le_refl _, Nat.zero_le _⟩, Below.refl _ _⟩
   · have h00 : ((s.size : Int) == 0) = false := by rw [beq_eq_false_iff_ne]; omega
     have h01 : (2000 : Int) < (s.size : Int) := by omega
     go_enter Tryz.func45, Tryz.ntmps45
     go_wp2
     go_ret2
     obtain ⟨rfl, h4, h5⟩ := hr.out
     exact ⟨none, 0, 0, rfl, by rw [h4, h5]; exact ⟨IsN.nil _ _, rfl, Nat.le_refl _, Nat.zero_le _⟩, Below.refl _ _⟩
 · have h1 : 1 ≤ s.size := by omega
   have h2 : s.size ≤ 2000 := by omega
   have h00 : ((s.size : Int) == 0) = false := by rw [beq_eq_false_iff_ne]; omega
   have h01 : (s.size : Int) ≤ 2000 := by omega
   have HP := Lib.hid (PInv.start (bytesOf s))
   clear h0
   go_enter Tryz.func45, Tryz.ntmps45
   have HN : RowKit.Hid (NN w none 0 0 (limbs 0) 0 223) := ⟨by rw [limbs_zero]; exact IsN.nil _ _, by rw [limbs_zero]; rfl, Nat.le_refl _, Nat.zero_le _⟩
   have HW := Lib.hid (Below.refl w.heap.size w)
   go_wp2
   go_loopw [0, 4] (fun sv ov wr => ∃ (i t : Nat) (S : ByteArray) (A1 : Option Addr) (n1 c1 : Nat), sv = .string S ∧ ov = .slice A1 n1 c1 ∧ RowKit.Hid (bytesOf S = (bytesOf s).drop i ∧ S.size + i = s.size) ∧ RowKit.Hid (PInv (bytesOf s) i t) ∧ RowKit.Hid (NN wr A1 n1 c1 (limbs t) t 223) ∧ RowKit.Hid (Below w.heap.size w wr)) (fun sv _ _ => strLen sv)
   case atStart => exact ⟨0, 0, s, none, 0, 0, rfl, rfl, ⟨rfl, rfl⟩, HP, HN, HW⟩
   case round =>
    clear HP HN HW
    obtain ⟨i, t, S, A1, n1, c1, rfl, rfl, HS, HP, HN, HW⟩ := hrel
    by_cases hS : S.size = 0
    · have hS0 : ¬ (0 : Int) < (S.size : Int) := by omega
      have hi : i = (bytesOf s).length := by rw [HL.out]; have := HS.out.2; omega
      have hp := HP.out
      unfold PInv at hp
      rw [hi, List.take_length] at hp
      have hok : numOk (bytesOf s) = true := numOk_good (by rw [HL.out]; exact h1) (by rw [HL.out]; exact h2) hp.1
      have hr : RowKit.Hid (v = true ∧ t = m) := ⟨by rw [← HV.out, hok], by rw [hp.2, ← HM.out, numV_yes hok]⟩
      clear hi hp hok
      go_wp2
      go_ret2
      obtain ⟨rfl, rfl⟩ := hr.out
      exact ⟨_, _, _, rfl, HN.out, HW.out⟩
    · have hS0 : (0 : Int) < (S.size : Int) := by omega
      obtain ⟨k, hk⟩ : ∃ k, k = min S.size 9 := ⟨_, rfl⟩
      have ek : min (S.size : Int) 9 = (k : Int) := by omega
      have hk1 : 1 ≤ k := by omega
      have hk9 : k ≤ 9 := by omega
      have hkS : k ≤ S.size := by omega
      obtain ⟨G, hG⟩ : ∃ G, S.extract 0 k = G := ⟨_, rfl⟩
      have hb : bytesOf G = ((bytesOf s).drop i).take k := by rw [← hG, bytesOf_extract, HS.out.1]; rfl
      have hGs : G.size = k := by
       rw [← length_bytesOf, hb, List.length_take, List.length_drop, HL.out]
       have := HS.out.2
       omega
      have HG := Lib.hid hb
      clear hb hk
      by_cases hd : allDig (bytesOf G) = true
      · obtain ⟨d, hdv⟩ : ∃ d, decV (bytesOf G) = d := ⟨_, rfl⟩
        have HC := Lib.hid (readUint_yes G wr (by omega) (by omega) hd d hdv)
        have hst := Limb.PInv.group HP.out (m := k) (by rw [HL.out]; have := HS.out.2; omega) (by rw [← HG.out]; exact hd)
        rw [← HG.out, hdv] at hst
        have hlt := hst.lt (by rw [HL.out]; exact h2)
        have hdl : d < 1000000000 := by
         rw [← hdv]
         have h3 := decV_lt hd
         rw [length_bytesOf, hGs] at h3
         exact Nat.lt_of_lt_of_le h3 (Nat.pow_le_pow_right (by decide) hk9)
        obtain ⟨p, hp⟩ : ∃ p, p = 10 ^ k := ⟨_, rfl⟩
        have hpl : p < 4294967296 := by rw [hp]; exact ten_limb hk9
        rw [← hp] at hst hlt
        have Hp := Lib.hid hp
        have HT2 := Lib.hid hst
        have Hlt := Lib.hid hlt
        obtain ⟨S2, hS2⟩ : ∃ S2, S.extract k S.size = S2 := ⟨_, rfl⟩
        have HS2 : RowKit.Hid (bytesOf S2 = (bytesOf s).drop (i + k) ∧ S2.size + (i + k) = s.size) := by
         have h3 : bytesOf S2 = (bytesOf s).drop (i + k) := by
          rw [← hS2, bytesOf_extract, HS.out.1, List.drop_drop]
          refine List.take_of_length_le ?_
          rw [List.length_drop, HL.out]
          have := HS.out.2
          omega
         refine ⟨h3, ?_⟩
         rw [← length_bytesOf, h3, List.length_drop, HL.out]
         have := HS.out.2
         omega
        have hS2l : S2.size < S.size := by have h3 := HS2.out.2; have h4 := HS.out.2; omega
        have HS2l := Lib.hid hS2l
        clear hd hdv hst hlt hp hS2l
        go_wp2_with fail
        refine HC.out.mono ?_
        rintro e w2 ⟨rfl, bn⟩
        have HN2 := Lib.hid (HN.out.below bn)
        have HW2 := Lib.hid (below_two HW.out bn)
        have hcell : w2.cell? ⟨0, k, none⟩ = some (.int .u32 (p : Int)) := by rw [Hp.out]; exact (HT.out.below HW2.out).1 k (by omega)
        clear bn HC HN HW
        go_wp2_with fail
        refine (mulSmall_c HN2.out p _ rfl hpl (by decide)).mono ?_
        rintro e w3 ⟨A3, n3, c3, rfl, hm, bn⟩
        have HM3 := Lib.hid hm
        have HW3 := Lib.hid (below_two HW2.out bn)
        clear hm bn HN2 HW2 hcell
        go_wp2_with fail
        refine (of_c d _ rfl (by omega) w3).mono ?_
        rintro e w4 ⟨A4, n4, c4, rfl, ho, bn⟩
        have HM4 := Lib.hid (HM3.out.below bn)
        have HO4 := Lib.hid ho
        have HW4 := Lib.hid (below_two HW3.out bn)
        clear ho bn HM3 HW3
        go_wp2_with fail
        refine (add_c HM4.out HO4.out 225 (by decide) (by decide) (by decide)).mono ?_
        rintro e w5 ⟨A5, n5, c5, rfl, hs, bn⟩
        have HN5 := Lib.hid (hs.relax Hlt.out)
        have HW5 := Lib.hid (below_two HW4.out bn)
        clear hs bn HM4 HO4 HW4
        go_wp2
        go_roundw
        case rel => exact ⟨i + k, t * p + d, S2, A5, n5, c5, rfl, rfl, HS2, HT2, HN5, HW5⟩
        case measure => exact HS2l.out
      · have hd2 : allDig (bytesOf G) = false := by simpa using hd
        have hno : numOk (bytesOf s) = false := numOk_part (by rw [← HG.out]; exact hd2)
        have hr : RowKit.Hid (v = false ∧ limbs m = [] ∧ m = 0) := by
         have h3 : m = 0 := by rw [← HM.out]; exact numV_no hno
         exact ⟨by rw [← HV.out, hno], by rw [h3]; exact limbs_zero, h3⟩
        have HC := Lib.hid (readUint_no G wr (HT.out.below HW.out) (by omega) hd2)
        clear hno hd hd2
        go_wp2_with fail
        refine HC.out.mono ?_
        rintro e w2 ⟨tt, p, rfl, bn⟩
        have HW2 := Lib.hid (below_two HW.out bn)
        clear bn HC
        go_wp2
        go_ret2
        obtain ⟨rfl, h4, h5⟩ := hr.out
        exact ⟨none, 0, 0, rfl, by rw [h4, h5]; exact ⟨IsN.nil _ _, rfl, Nat.le_refl _, Nat.zero_le _⟩, HW2.out⟩
end Go.Proofs.YtjikaojffgjndaaGreatDoor

/- What package decimal's scale tells, as contracts over memory. Conditions: sizes of at most so many limbs; the table of powers of ten. -/
namespace Go.Proofs.YtjikaojffgjndaaGreatDoor
open Go.RowKit Limb
set_option linter.unusedVariables false
theorem digTen_w (N : Nat) (V : Int) (hV : V = N) (U : Nat) (hU : 10 ^ N = U) (w : World) (T : Tab w) (h1 : N ≤ 2000) (K : Nat) (hK : U < 4294967296 ^ K) :
 Calls Tryz.prog 30 #[.int .i64 V] w fun e w' => ∃ A1 n1 c1, e = .returned (.tuple #[.slice A1 n1 c1, .bool true]) ∧ NN w' A1 n1 c1 (limbs U) U K ∧ Below w.heap.size w w' := by
 subst hU
 refine (digTen_yes N V hV h1 w T).mono ?_
 rintro e w' ⟨A1, n1, c1, rfl, h, hb⟩
 exact ⟨A1, n1, c1, rfl, h.relax hK, hb⟩
theorem sg_same {x : Int} {a : Nat} (h : x < 0 → a ≠ 0) : sg (zOf (sg x) a) = sg x := by
 unfold zOf sg
 by_cases h0 : x < 0
 · have := h h0
   simp [h0]; omega
 · simp [h0]
theorem neg_of_sg2 {x : Int} (h : sg x = true) : x < 0 := by simpa [sg] using h
theorem quo_ne {q : Rat} {p U : Nat} (hU : 10 ^ p = U) (h : q.num < 0) (hr : q.num.natAbs * U % q.den = 0) : q.num.natAbs * U / q.den ≠ 0 := by
 intro h0
 have h1 := Nat.div_add_mod (q.num.natAbs * U) q.den
 rw [h0, hr, Nat.mul_zero] at h1
 have h2 : 0 < q.num.natAbs := by omega
 have h3 : 0 < U := by rw [← hU]; exact Nat.pow_pos (by decide)
 have h4 := Nat.mul_pos h2 h3
 omega
section
variable {w : World} {s s' : Bool} {A B A' B' : Option Addr} {n c m d n' c' m' d' : Nat} {xs ys xs' ys' : List Nat} {x y z : Int} {q : Rat} {o : Option Rat} {l : Nat} {a b L L' : Nat}
set_option maxHeartbeats 4000000 in
set_option maxRecDepth 100000 in
theorem scScale_no (hx : QQ w s A n c xs B m d ys o L) (h1 : L ≤ 1000) (T : Tab w) (p : Int) (p1 : -9223372036854775808 ≤ p) (p2 : p ≤ 9223372036854775807) (hv : (o.isSome && (decide (0 ≤ p) && decide (p ≤ 60))) = false) :
 Calls Tryz.prog 53 #[.agg #[.bool s, .slice A n c, .slice B m d], .int .i64 p] w fun e w' => e = .returned (.tuple #[.agg #[.bool false, .slice none 0 0, .slice none 0 0, .slice none 0 0], .int .i64 1]) ∧ Below w.heap.size w w' := by
 cases o with
 | none =>
  clear hv
  have b0 := below_new w (.cells #[Value.bool s, Value.slice A n c, Value.slice B m d] 27)
  have bz := below_new (w.alloc (.cells #[Value.bool s, Value.slice A n c, Value.slice B m d] 27)) (.cells #[Value.bool false, Value.slice none 0 0, Value.slice none 0 0, Value.slice none 0 0] 83)
  have HW := Lib.hid (below_two b0 bz)
  have HQ := Lib.hid (hx.below HW.out)
  have HTb := Lib.hid (T.below HW.out)
  have r0 := (row3_new w 27 (.bool s) (.slice A n c) (.slice B m d)).below bz
  have rz := row4_new (w.alloc (.cells #[Value.bool s, Value.slice A n c, Value.slice B m d] 27)) 83 (.bool false) (.slice none 0 0) (.slice none 0 0) (.slice none 0 0)
  simp only [World.size_alloc] at rz
  have HR0 := Lib.hid r0
  have HZ := Lib.hid rz
  have Hq : RowKit.Hid (w.heap.size ≤ w.heap.size + 1) := Nat.le_succ _
  clear b0 bz r0 rz hx T
  go_enter Tryz.func53, Tryz.ntmps53
  go_wp2_with fail
  generalize (w.alloc (.cells #[Value.bool s, Value.slice A n c, Value.slice B m d] 27)).alloc (.cells #[Value.bool false, Value.slice none 0 0, Value.slice none 0 0, Value.slice none 0 0] 83) = w1 at *
  have c00 := HR0.out.c0
  have c01 := HR0.out.c1
  have c02 := HR0.out.c2
  refine (rGood_c HQ.out (by omega) false rfl).mono ?_
  rintro e w2 ⟨rfl, bn⟩
  clear c00 c01 c02
  replace HQ := Lib.hid (HQ.out.below bn)
  replace HR0 := Lib.hid (HR0.out.below bn)
  replace HZ := Lib.hid (HZ.out.below bn)
  replace HTb := Lib.hid (HTb.out.below bn)
  replace HW := Lib.hid (below_two HW.out bn)
  clear bn
  have e0 := HZ.out.c0
  have e1 := HZ.out.c1
  have e2 := HZ.out.c2
  have e3 := HZ.out.c3
  have f0 := HZ.out.free 0
  have f1 := HZ.out.free 1
  have f2 := HZ.out.free 2
  have f3 := HZ.out.free 3
  have HF := Lib.hid (HZ.out.fill (.bool false) (.slice none 0 0) (.slice none 0 0) (.slice none 0 0))
  have HB := Lib.hid (below_fill4 HW.out Hq.out (.bool false) (.slice none 0 0) (.slice none 0 0) (.slice none 0 0))
  go_wp2
  refine bodyPost_ret (results_mixed rfl _ _ _ 83 #[.bool false, .slice none 0 0, .slice none 0 0, .slice none 0 0] (0, 0) _ (.int .i64 1) rfl rfl HF.out Tryz.underlying83 rfl sc_size) rfl ?_
  exact ⟨rfl, HB.out⟩
 | some q =>
  have hv2 : (decide (0 ≤ p) && decide (p ≤ 60)) = false := hv
  clear hv
  by_cases h0 : p < 0
  · have p0 : p < 0 := by omega
    clear hv2
    have b0 := below_new w (.cells #[Value.bool s, Value.slice A n c, Value.slice B m d] 27)
    have bz := below_new (w.alloc (.cells #[Value.bool s, Value.slice A n c, Value.slice B m d] 27)) (.cells #[Value.bool false, Value.slice none 0 0, Value.slice none 0 0, Value.slice none 0 0] 83)
    have HW := Lib.hid (below_two b0 bz)
    have HQ := Lib.hid (hx.below HW.out)
    have HTb := Lib.hid (T.below HW.out)
    have r0 := (row3_new w 27 (.bool s) (.slice A n c) (.slice B m d)).below bz
    have rz := row4_new (w.alloc (.cells #[Value.bool s, Value.slice A n c, Value.slice B m d] 27)) 83 (.bool false) (.slice none 0 0) (.slice none 0 0) (.slice none 0 0)
    simp only [World.size_alloc] at rz
    have HR0 := Lib.hid r0
    have HZ := Lib.hid rz
    have Hq : RowKit.Hid (w.heap.size ≤ w.heap.size + 1) := Nat.le_succ _
    clear b0 bz r0 rz hx T
    go_enter Tryz.func53, Tryz.ntmps53
    go_wp2_with fail
    generalize (w.alloc (.cells #[Value.bool s, Value.slice A n c, Value.slice B m d] 27)).alloc (.cells #[Value.bool false, Value.slice none 0 0, Value.slice none 0 0, Value.slice none 0 0] 83) = w1 at *
    have c00 := HR0.out.c0
    have c01 := HR0.out.c1
    have c02 := HR0.out.c2
    refine (rGood_c HQ.out (by omega) true rfl).mono ?_
    rintro e w2 ⟨rfl, bn⟩
    clear c00 c01 c02
    replace HQ := Lib.hid (HQ.out.below bn)
    replace HR0 := Lib.hid (HR0.out.below bn)
    replace HZ := Lib.hid (HZ.out.below bn)
    replace HTb := Lib.hid (HTb.out.below bn)
    replace HW := Lib.hid (below_two HW.out bn)
    clear bn
    have e0 := HZ.out.c0
    have e1 := HZ.out.c1
    have e2 := HZ.out.c2
    have e3 := HZ.out.c3
    have f0 := HZ.out.free 0
    have f1 := HZ.out.free 1
    have f2 := HZ.out.free 2
    have f3 := HZ.out.free 3
    have HF := Lib.hid (HZ.out.fill (.bool false) (.slice none 0 0) (.slice none 0 0) (.slice none 0 0))
    have HB := Lib.hid (below_fill4 HW.out Hq.out (.bool false) (.slice none 0 0) (.slice none 0 0) (.slice none 0 0))
    go_wp2
    refine bodyPost_ret (results_mixed rfl _ _ _ 83 #[.bool false, .slice none 0 0, .slice none 0 0, .slice none 0 0] (0, 0) _ (.int .i64 1) rfl rfl HF.out Tryz.underlying83 rfl sc_size) rfl ?_
    exact ⟨rfl, HB.out⟩
  · have p0 : 0 ≤ p := by omega
    have p6 : 60 < p := by
     rcases Int.lt_or_le 60 p with h | h
     · exact h
     · rw [decide_eq_true p0, decide_eq_true h] at hv2; cases hv2
    clear hv2 h0
    have b0 := below_new w (.cells #[Value.bool s, Value.slice A n c, Value.slice B m d] 27)
    have bz := below_new (w.alloc (.cells #[Value.bool s, Value.slice A n c, Value.slice B m d] 27)) (.cells #[Value.bool false, Value.slice none 0 0, Value.slice none 0 0, Value.slice none 0 0] 83)
    have HW := Lib.hid (below_two b0 bz)
    have HQ := Lib.hid (hx.below HW.out)
    have HTb := Lib.hid (T.below HW.out)
    have r0 := (row3_new w 27 (.bool s) (.slice A n c) (.slice B m d)).below bz
    have rz := row4_new (w.alloc (.cells #[Value.bool s, Value.slice A n c, Value.slice B m d] 27)) 83 (.bool false) (.slice none 0 0) (.slice none 0 0) (.slice none 0 0)
    simp only [World.size_alloc] at rz
    have HR0 := Lib.hid r0
    have HZ := Lib.hid rz
    have Hq : RowKit.Hid (w.heap.size ≤ w.heap.size + 1) := Nat.le_succ _
    clear b0 bz r0 rz hx T
    go_enter Tryz.func53, Tryz.ntmps53
    go_wp2_with fail
    generalize (w.alloc (.cells #[Value.bool s, Value.slice A n c, Value.slice B m d] 27)).alloc (.cells #[Value.bool false, Value.slice none 0 0, Value.slice none 0 0, Value.slice none 0 0] 83) = w1 at *
    have c00 := HR0.out.c0
    have c01 := HR0.out.c1
    have c02 := HR0.out.c2
    refine (rGood_c HQ.out (by omega) true rfl).mono ?_
    rintro e w2 ⟨rfl, bn⟩
    clear c00 c01 c02
    replace HQ := Lib.hid (HQ.out.below bn)
    replace HR0 := Lib.hid (HR0.out.below bn)
    replace HZ := Lib.hid (HZ.out.below bn)
    replace HTb := Lib.hid (HTb.out.below bn)
    replace HW := Lib.hid (below_two HW.out bn)
    clear bn
    have e0 := HZ.out.c0
    have e1 := HZ.out.c1
    have e2 := HZ.out.c2
    have e3 := HZ.out.c3
    have f0 := HZ.out.free 0
    have f1 := HZ.out.free 1
    have f2 := HZ.out.free 2
    have f3 := HZ.out.free 3
    have HF := Lib.hid (HZ.out.fill (.bool false) (.slice none 0 0) (.slice none 0 0) (.slice none 0 0))
    have HB := Lib.hid (below_fill4 HW.out Hq.out (.bool false) (.slice none 0 0) (.slice none 0 0) (.slice none 0 0))
    go_wp2
    refine bodyPost_ret (results_mixed rfl _ _ _ 83 #[.bool false, .slice none 0 0, .slice none 0 0, .slice none 0 0] (0, 0) _ (.int .i64 1) rfl rfl HF.out Tryz.underlying83 rfl sc_size) rfl ?_
    exact ⟨rfl, HB.out⟩
set_option maxHeartbeats 4000000 in
set_option maxRecDepth 100000 in
theorem scScale_yes (hx : QQ w s A n c xs B m d ys (Option.some q) L) (h1 : L ≤ 1000) (T : Tab w) (p : Nat) (hp : p ≤ 60) (z : Int) (hz : (movedQ q p).floor = z) (l : Nat) (hl : leftQ q p = l) :
 Calls Tryz.prog 53 #[.agg #[.bool s, .slice A n c, .slice B m d], .int .i64 (p : Int)] w fun e w' => ∃ A8 n8 c8 A9 n9 c9 B9 m9 d9, e = .returned (.tuple #[.agg #[.bool (sg z), .slice A8 n8 c8, .slice A9 n9 c9, .slice B9 m9 d9], .int .i64 0]) ∧ SC w' A8 n8 c8 A9 n9 c9 B9 m9 d9 z l q.den ∧ Below w.heap.size w w' := by
 obtain ⟨t1, t2, t3, hf, -, -, -⟩ := hx.some
 subst t1
 subst t2
 subst t3
 obtain ⟨T10, hT⟩ : ∃ T : Nat, 10 ^ p = T := ⟨_, rfl⟩
 have HT := Lib.hid hT
 have HTl : RowKit.Hid (T10 < 4294967296 ^ 7) := by show _ < _; rw [← hT]; exact Nat.lt_of_lt_of_le (ten_room p) (Nat.pow_le_pow_right (by decide) (by omega))
 have HP : RowKit.Hid (p ≤ 2000) := by show _ ≤ _; omega
 have HZ0 := Lib.hid hz
 have HL0 := Lib.hid hl
 have p0 : (0 : Int) ≤ (p : Int) := by omega
 have p6 : (p : Int) ≤ 60 := by omega
 clear hT hz hl hf
 have b0 := below_new w (.cells #[Value.bool (sg q.num), Value.slice A n c, Value.slice B m d] 27)
 have bz := below_new (w.alloc (.cells #[Value.bool (sg q.num), Value.slice A n c, Value.slice B m d] 27)) (.cells #[Value.bool false, Value.slice none 0 0, Value.slice none 0 0, Value.slice none 0 0] 83)
 have HW := Lib.hid (below_two b0 bz)
 have HQ := Lib.hid (hx.below HW.out)
 have HTb := Lib.hid (T.below HW.out)
 have r0 := (row3_new w 27 (.bool (sg q.num)) (.slice A n c) (.slice B m d)).below bz
 have rz := row4_new (w.alloc (.cells #[Value.bool (sg q.num), Value.slice A n c, Value.slice B m d] 27)) 83 (.bool false) (.slice none 0 0) (.slice none 0 0) (.slice none 0 0)
 simp only [World.size_alloc] at rz
 have HR0 := Lib.hid r0
 have HZ := Lib.hid rz
 have Hq : RowKit.Hid (w.heap.size ≤ w.heap.size + 1) := Nat.le_succ _
 clear b0 bz r0 rz hx T
 go_enter Tryz.func53, Tryz.ntmps53
 go_wp2_with fail
 generalize (w.alloc (.cells #[Value.bool (sg q.num), Value.slice A n c, Value.slice B m d] 27)).alloc (.cells #[Value.bool false, Value.slice none 0 0, Value.slice none 0 0, Value.slice none 0 0] 83) = w1 at *
 have c00 := HR0.out.c0
 have c01 := HR0.out.c1
 have c02 := HR0.out.c2
 refine (rGood_c HQ.out (by omega) true rfl).mono ?_
 rintro e w2 ⟨rfl, bn⟩
 clear c00 c01 c02
 replace HQ := Lib.hid (HQ.out.below bn)
 replace HR0 := Lib.hid (HR0.out.below bn)
 replace HZ := Lib.hid (HZ.out.below bn)
 replace HTb := Lib.hid (HTb.out.below bn)
 replace HW := Lib.hid (below_two HW.out bn)
 clear bn
 have HX := Lib.hid HQ.out.some.2.2.2.2.1
 have HY := Lib.hid HQ.out.some.2.2.2.2.2.1
 clear HQ
 go_wp2_with fail
 refine (digTen_w p _ rfl T10 HT.out _ HTb.out HP.out 7 HTl.out).mono ?_
 rintro e wS ⟨A4, n4, c4, rfl, h4, bn⟩
 have H4 := Lib.hid h4
 replace HX := Lib.hid (HX.out.below bn)
 replace HY := Lib.hid (HY.out.below bn)
 replace HR0 := Lib.hid (HR0.out.below bn)
 replace HZ := Lib.hid (HZ.out.below bn)
 replace HTb := Lib.hid (HTb.out.below bn)
 replace HW := Lib.hid (below_two HW.out bn)
 clear bn h4
 go_wp2
 refine region_freed 9 6 6 [30, 31, 32, 33, 34, 35, 36, 37, 29] ?aF19 (fun wx => Below wS.heap.size wS wx) (fun k vv wx => match k with
  | 0 => vv = .pointer (some ⟨w.heap.size, 0, none⟩)
  | 1 => vv = .pointer (some ⟨w.heap.size, 1, none⟩)
  | 2 => vv = .slice A n c
  | 3 => vv = .slice A4 n4 c4
  | 4 => ∃ (e0 : Option Addr) (e1 : Nat) (e2 : Nat), vv = .slice e0 e1 e2 ∧ NN wx e0 e1 e2 (limbs (q.num.natAbs * T10)) (q.num.natAbs * T10) 71
  | 5 => vv = .pointer (some ⟨w.heap.size, 2, none⟩)
  | 6 => vv = .slice B m d
  | 7 => ∃ (e0 : Option Addr) (e1 : Nat) (e2 : Nat) (e3 : Option Addr) (e4 : Nat) (e5 : Nat), vv = .tuple #[.slice e0 e1 e2, .slice e3 e4 e5, .bool true] ∧ NN wx e0 e1 e2 (limbs (q.num.natAbs * T10 / q.den)) (q.num.natAbs * T10 / q.den) 71 ∧ NN wx e3 e4 e5 (limbs (q.num.natAbs * T10 % q.den)) (q.num.natAbs * T10 % q.den) 64
  | _ => ∃ (e0 : Option Addr) (e1 : Nat) (e2 : Nat) (e3 : Option Addr) (e4 : Nat) (e5 : Nat), vv = .tuple #[.slice e0 e1 e2, .slice e3 e4 e5, .bool true] ∧ NN wx e0 e1 e2 (limbs (q.num.natAbs * T10 / q.den)) (q.num.natAbs * T10 / q.den) 71 ∧ NN wx e3 e4 e5 (limbs (q.num.natAbs * T10 % q.den)) (q.num.natAbs * T10 % q.den) 64)
  (fun k => false) (by kernel_rfl) ?haF19 rfl (by kernel_rfl) (by kernel_rfl) (fun _ _ _ _ _ h => h) ?hSb19 ?hPb19 ?hS19 ?hop19 ?hfin19
 case haF19 =>
  intro vals
  simp only [fillAll, List.getElem?_cons_zero, List.getElem?_cons_succ, Act.put, List.setIfInBounds_toArray, List.set_cons_zero, List.set_cons_succ]
  exact rfl
 case hSb19 => exact fun wx w2 hb hS => below_two hS hb
 case hPb19 =>
  intro k v wa wb hb h
  match k, h with
  | 0, h => exact h
  | 1, h => exact h
  | 2, h => exact h
  | 3, h => exact h
  | 4, ⟨e0, e1, e2, h1, g0⟩ => exact ⟨e0, e1, e2, h1, g0.below hb⟩
  | 5, h => exact h
  | 6, h => exact h
  | 7, ⟨e0, e1, e2, e3, e4, e5, h1, g0, g1⟩ => exact ⟨e0, e1, e2, e3, e4, e5, h1, g0.below hb, g1.below hb⟩
  | _ + 8, ⟨e0, e1, e2, e3, e4, e5, h1, g0, g1⟩ => exact ⟨e0, e1, e2, e3, e4, e5, h1, g0.below hb, g1.below hb⟩
 case hS19 => exact (Below.refl _ _).drew
 case hop19 =>
  refine .cons (k := 0) (.plain rfl ?_) (.cons (k := 1) (.plain rfl ?_) (.cons (k := 2) (.plain rfl ?_) (.cons (k := 3) (.plain rfl ?_) (.cons (k := 4) (.plain rfl ?_) (.cons (k := 5) (.plain rfl ?_) (.cons (k := 6) (.plain rfl ?_) (.cons (k := 7) (.plain rfl ?_) (.cons (k := 8) (.plain rfl ?_) (.nil)))))))))
  all_goals intro vals wr hS hd KC hK
  all_goals (show Oper.wp _ _ _ _ _ _; dsimp only)
  · go_simp
    refine hK _ _ rfl (Below.refl _ _) (by first | rfl | simp) (fun h => by cases h)
  · have d0 : vals 0 = _ := hd 0 (by decide +kernel)
    rw [d0]
    go_simp
    refine hK _ _ rfl (Below.refl _ _) (by first | rfl | simp) (fun h => by cases h)
  · have d1 : vals 1 = _ := hd 1 (by decide +kernel)
    rw [d1]
    have z0 := (HR0.out.below hS).c1
    go_simp
    refine hK _ _ rfl (Below.refl _ _) (by first | rfl | simp) (fun h => by cases h)
  · go_simp
    refine hK _ _ rfl (Below.refl _ _) (by first | rfl | simp) (fun h => by cases h)
  · have d2 : vals 2 = _ := hd 2 (by decide +kernel)
    have d3 : vals 3 = _ := hd 3 (by decide +kernel)
    rw [d2, d3]
    go_simp
    go_at_call 79
    with_reducible refine (mulOf_c (HX.out.nn.below hS) (H4.out.below hS) 71 (by decide) (by decide) (by decide)).mono ?_
    rintro e w2 ⟨r0, r1, r2, rfl, f0, bn_r⟩
    refine hK _ _ rfl bn_r ⟨_, _, _, rfl, f0⟩ (fun h => by cases h)
  · go_simp
    refine hK _ _ rfl (Below.refl _ _) (by first | rfl | simp) (fun h => by cases h)
  · have d5 : vals 5 = _ := hd 5 (by decide +kernel)
    rw [d5]
    have z0 := (HR0.out.below hS).c2
    go_simp
    refine hK _ _ rfl (Below.refl _ _) (by first | rfl | simp) (fun h => by cases h)
  · obtain ⟨A_4_0, n_4_1, n_4_2, d4, h_4_0⟩ := hd 4 (by decide +kernel)
    have d6 : vals 6 = _ := hd 6 (by decide +kernel)
    rw [d4, d6]
    go_simp
    go_at_call 85
    with_reducible refine (quoRem_yes h_4_0 (HY.out.below hS) (by decide) (by decide) q.den_nz).mono ?_
    rintro e w2 ⟨r0, r1, r2, r3, r4, r5, rfl, f0, f1, bn_r⟩
    refine hK _ _ rfl bn_r ⟨_, _, _, _, _, _, rfl, f0, f1⟩ (fun h => by cases h)
  · obtain ⟨A_7_0, n_7_1, n_7_2, A_7_3, n_7_4, n_7_5, d7, h_7_0, h_7_1⟩ := hd 7 (by decide +kernel)
    rw [d7]
    go_simp
    refine hK _ _ rfl (Below.refl _ _) ⟨_, _, _, _, _, _, rfl, h_7_0, h_7_1⟩ (fun h => by cases h)
 case hfin19 =>
  intro vals wr hS hP hne
  obtain ⟨A_8_0, n_8_1, n_8_2, A_8_3, n_8_4, n_8_5, ez_8, h_8_0, h_8_1⟩ := hP 8 (by decide)
  try dsimp only
  rw [ez_8]
  refine wpAny_take (i := 9) rfl (by kernel_rfl) (by kernel_rfl) (by kernel_rfl) (fun _ _ _ h => h) (.inl ⟨rfl, fun _ => rfl⟩) ?_
  simp only [Act.put, List.setIfInBounds_toArray]
  refine wpAny_take (i := 12) rfl (by kernel_rfl) (by kernel_rfl) (by kernel_rfl) (fun _ _ _ h => h) (.inl ⟨rfl, fun _ => rfl⟩) ?_
  simp only [Act.put]
  refine wpAny_take (i := 10) rfl (by kernel_rfl) (by kernel_rfl) (by kernel_rfl) (fun _ _ _ h => h) (.inl ⟨rfl, fun _ => rfl⟩) ?_
  simp only [Act.put]
  refine wpAny_take (i := 13) rfl (by kernel_rfl) (by kernel_rfl) (by kernel_rfl) (fun _ _ _ h => h) (.inl ⟨rfl, fun _ => rfl⟩) ?_
  simp only [Act.put]
  refine wpAny_take (i := 11) rfl (by kernel_rfl) (by kernel_rfl) (by kernel_rfl) (fun _ _ _ h => h) (.inl ⟨rfl, fun _ => rfl⟩) ?_
  simp only [Act.put]
  refine wpAny_take (i := 14) rfl (by kernel_rfl) (by kernel_rfl) (by kernel_rfl) (fun _ _ _ h => h) (.inl ⟨rfl, fun _ => rfl⟩) ?_
  simp only [Act.put]
  refine wpAny_done (by kernel_rfl) ?_ _
  replace HX := Lib.hid (HX.out.below hS)
  replace HY := Lib.hid (HY.out.below hS)
  replace HR0 := Lib.hid (HR0.out.below hS)
  replace HZ := Lib.hid (HZ.out.below hS)
  replace HW := Lib.hid (below_two HW.out hS)
  have H8 := Lib.hid h_8_0
  have H9 := Lib.hid h_8_1
  clear hS HTb H4
  generalize wr = w4 at *
  obtain ⟨A8, eA⟩ : ∃ A, A = A_8_0 := ⟨_, rfl⟩
  rw [← eA] at H8 ⊢
  clear eA
  obtain ⟨n8, eA⟩ : ∃ A, A = n_8_1 := ⟨_, rfl⟩
  rw [← eA] at H8 ⊢
  clear eA
  obtain ⟨c8, eA⟩ : ∃ A, A = n_8_2 := ⟨_, rfl⟩
  rw [← eA] at H8 ⊢
  clear eA
  obtain ⟨A9, eA⟩ : ∃ A, A = A_8_3 := ⟨_, rfl⟩
  rw [← eA] at H9 ⊢
  clear eA
  obtain ⟨n9, eA⟩ : ∃ A, A = n_8_4 := ⟨_, rfl⟩
  rw [← eA] at H9 ⊢
  clear eA
  obtain ⟨c9, eA⟩ : ∃ A, A = n_8_5 := ⟨_, rfl⟩
  rw [← eA] at H9 ⊢
  clear eA
  cases hs : sg q.num with
  | false =>
   have HSg := Lib.hid hs
   have hno : q.num < 0 → q.num.natAbs * T10 % q.den = 0 := fun h => by rw [sg_neg h] at hs; cases hs
   have HN : RowKit.Hid (q.num < 0 → q.num.natAbs * T10 / q.den ≠ 0) := fun h => by rw [sg_neg h] at hs; cases hs
   have hE := floor_zero HT.out (hno)
   rw [HZ0.out] at hE
   have hL := left_keep HT.out (hno)
   rw [HL0.out] at hL
   have HSz : RowKit.Hid (sg z = false) := by show _ = _; rw [← hs, ← hE]; exact sg_same HN.out
   have HFl : RowKit.Hid (ZZ w4 (sg z) A8 n8 c8 (limbs z.natAbs) z 73) := by
    show ZZ _ _ _ _ _ _ _ _
    rw [← hE, zOf_abs]
    rw [show sg (zOf (sg q.num) (q.num.natAbs * T10 / q.den)) = sg q.num from sg_same HN.out]
    exact zz_up (ZZ.of H8.out) (by decide)
   have HLf : RowKit.Hid (NN w4 A9 n9 c9 (limbs l) l 64) := by show NN _ _ _ _ _ _ _; rw [hL]; exact H9.out
   have c00 := HR0.out.c0
   rw [hs] at c00
   clear hno hE hL hs
   have bx := below_new w4 (.cells #[Value.bool false, Value.slice A8 n8 c8] 25)
   have HV := Lib.hid (row2_new w4 25 (.bool false) (.slice A8 n8 c8))
   replace HX := Lib.hid (HX.out.below bx)
   replace HY := Lib.hid (HY.out.below bx)
   replace HR0 := Lib.hid (HR0.out.below bx)
   replace HZ := Lib.hid (HZ.out.below bx)
   replace HFl := Lib.hid (HFl.out.below bx)
   replace HLf := Lib.hid (HLf.out.below bx)
   replace HW := Lib.hid (below_two HW.out bx)
   clear bx H8 H9 HN
   have d00 : (w4.alloc (.cells #[Value.bool false, Value.slice A8 n8 c8] 25)).cell? ⟨w.heap.size, 0, none⟩ = some (.bool false) := HR0.out.c0.trans (by rw [HSg.out])
   have d02 := HR0.out.c2
   have v0 := HV.out.c0
   have v1 := HV.out.c1
   have hNo := HZ.out.noLimb (by intro v e; cases e) (by intro v e; cases e) (by intro v e; cases e) (by intro v e; cases e)
   have HSC : RowKit.Hid (SC (((((w4.alloc (.cells #[Value.bool false, Value.slice A8 n8 c8] 25)).setCell ⟨w.heap.size + 1, 0, none⟩ (.bool false)).setCell ⟨w.heap.size + 1, 1, none⟩ (.slice A8 n8 c8)).setCell ⟨w.heap.size + 1, 2, none⟩ (.slice A9 n9 c9)).setCell ⟨w.heap.size + 1, 3, none⟩ (.slice B m d)) A8 n8 c8 A9 n9 c9 B m d z l q.den) := ⟨HFl.out.fillR4 hNo (.bool false) (.slice A8 n8 c8) (.slice A9 n9 c9) (.slice B m d), HLf.out.fillR4 hNo (.bool false) (.slice A8 n8 c8) (.slice A9 n9 c9) (.slice B m d), HY.out.fillR4 hNo (.bool false) (.slice A8 n8 c8) (.slice A9 n9 c9) (.slice B m d)⟩
   clear hNo
   have e0 := HZ.out.c0
   have e1 := HZ.out.c1
   have e2 := HZ.out.c2
   have e3 := HZ.out.c3
   have f0 := HZ.out.free 0
   have f1 := HZ.out.free 1
   have f2 := HZ.out.free 2
   have f3 := HZ.out.free 3
   have HF := Lib.hid (HZ.out.fill (.bool false) (.slice A8 n8 c8) (.slice A9 n9 c9) (.slice B m d))
   have HB := Lib.hid (below_fill4 HW.out Hq.out (.bool false) (.slice A8 n8 c8) (.slice A9 n9 c9) (.slice B m d))
   go_wp2
   refine bodyPost_ret (results_mixed rfl _ _ _ 83 #[.bool false, .slice A8 n8 c8, .slice A9 n9 c9, .slice B m d] (0, 0) _ (.int .i64 0) rfl rfl HF.out Tryz.underlying83 rfl sc_size) rfl ?_
   exact ⟨A8, n8, c8, A9, n9, c9, B, m, d, by rw [HSz.out], HSC.out, HB.out⟩
  | true =>
   have HSg := Lib.hid hs
   by_cases hr : q.num.natAbs * T10 % q.den = 0
   · have HN : RowKit.Hid (q.num < 0 → q.num.natAbs * T10 / q.den ≠ 0) := fun h => quo_ne HT.out h hr
     have hE := floor_zero HT.out (fun _ => hr)
     rw [HZ0.out] at hE
     have hL := left_keep HT.out (fun _ => hr)
     rw [HL0.out] at hL
     have HSz : RowKit.Hid (sg z = true) := by show _ = _; rw [← hs, ← hE]; exact sg_same HN.out
     have HFl : RowKit.Hid (ZZ w4 (sg z) A8 n8 c8 (limbs z.natAbs) z 73) := by
      show ZZ _ _ _ _ _ _ _ _
      rw [← hE, zOf_abs]
      rw [show sg (zOf (sg q.num) (q.num.natAbs * T10 / q.den)) = sg q.num from sg_same HN.out]
      exact zz_up (ZZ.of H8.out) (by decide)
     have HLf : RowKit.Hid (NN w4 A9 n9 c9 (limbs l) l 64) := by show NN _ _ _ _ _ _ _; rw [hL]; exact H9.out
     have HB0 : RowKit.Hid (((blen (q.num.natAbs * T10 % q.den) : Nat) : Int) = 0) := by show _ = _; rw [hr]; rfl
     clear hr hE hL
     have c00 := HR0.out.c0
     rw [hs] at c00
     have bx := below_new w4 (.cells #[Value.bool true, Value.slice A8 n8 c8] 25)
     have HV := Lib.hid (row2_new w4 25 (.bool true) (.slice A8 n8 c8))
     have H9b := Lib.hid (H9.out.below bx)
     replace HY := Lib.hid (HY.out.below bx)
     replace HR0 := Lib.hid (HR0.out.below bx)
     replace HZ := Lib.hid (HZ.out.below bx)
     replace HFl := Lib.hid (HFl.out.below bx)
     replace HLf := Lib.hid (HLf.out.below bx)
     replace HW := Lib.hid (below_two HW.out bx)
     clear bx H8 H9 HN HX
     have d00 : (w4.alloc (.cells #[Value.bool true, Value.slice A8 n8 c8] 25)).cell? ⟨w.heap.size, 0, none⟩ = some (.bool true) := HR0.out.c0.trans (by rw [HSg.out])
     clear hs
     go_wp2_with fail
     refine (bits_c H9b.out (by decide) 0 HB0.out).mono ?_
     rintro e w8 ⟨rfl, rfl⟩
     clear c00 d00
     generalize w4.alloc (.cells #[Value.bool true, Value.slice A8 n8 c8] 25) = w7 at *
     have d02 := HR0.out.c2
     have v0 := HV.out.c0
     have v1 := HV.out.c1
     have hNo := HZ.out.noLimb (by intro v e; cases e) (by intro v e; cases e) (by intro v e; cases e) (by intro v e; cases e)
     have HSC : RowKit.Hid (SC ((((w7.setCell ⟨w.heap.size + 1, 0, none⟩ (.bool true)).setCell ⟨w.heap.size + 1, 1, none⟩ (.slice A8 n8 c8)).setCell ⟨w.heap.size + 1, 2, none⟩ (.slice A9 n9 c9)).setCell ⟨w.heap.size + 1, 3, none⟩ (.slice B m d)) A8 n8 c8 A9 n9 c9 B m d z l q.den) := ⟨HFl.out.fillR4 hNo (.bool true) (.slice A8 n8 c8) (.slice A9 n9 c9) (.slice B m d), HLf.out.fillR4 hNo (.bool true) (.slice A8 n8 c8) (.slice A9 n9 c9) (.slice B m d), HY.out.fillR4 hNo (.bool true) (.slice A8 n8 c8) (.slice A9 n9 c9) (.slice B m d)⟩
     clear hNo
     have e0 := HZ.out.c0
     have e1 := HZ.out.c1
     have e2 := HZ.out.c2
     have e3 := HZ.out.c3
     have f0 := HZ.out.free 0
     have f1 := HZ.out.free 1
     have f2 := HZ.out.free 2
     have f3 := HZ.out.free 3
     have HF := Lib.hid (HZ.out.fill (.bool true) (.slice A8 n8 c8) (.slice A9 n9 c9) (.slice B m d))
     have HB := Lib.hid (below_fill4 HW.out Hq.out (.bool true) (.slice A8 n8 c8) (.slice A9 n9 c9) (.slice B m d))
     go_wp2
     refine bodyPost_ret (results_mixed rfl _ _ _ 83 #[.bool true, .slice A8 n8 c8, .slice A9 n9 c9, .slice B m d] (0, 0) _ (.int .i64 0) rfl rfl HF.out Tryz.underlying83 rfl sc_size) rfl ?_
     exact ⟨A8, n8, c8, A9, n9, c9, B, m, d, by rw [HSz.out], HSC.out, HB.out⟩
   · have HE : RowKit.Hid (zOf true (q.num.natAbs * T10 / q.den) + (-1) = z) := by
      show _ = _
      rw [← HZ0.out, ← hs]; exact floor_less HT.out (neg_of_sg2 hs) hr
     have HL : RowKit.Hid (l = q.den - q.num.natAbs * T10 % q.den) := by
      show _ = _
      rw [← HL0.out]; exact left_turn HT.out (neg_of_sg2 hs) hr
     obtain ⟨v, hv⟩ : ∃ v : Int, ((blen (q.num.natAbs * T10 % q.den) : Nat) : Int) = v := ⟨_, rfl⟩
     have hv0 : 0 < v := by
      have := mt blen_eq_zero.1 hr
      omega
     have HB0 := Lib.hid hv
     clear hr hv
     have c00 := HR0.out.c0
     rw [hs] at c00
     have bx := below_new w4 (.cells #[Value.bool true, Value.slice A8 n8 c8] 25)
     have HV := Lib.hid (row2_new w4 25 (.bool true) (.slice A8 n8 c8))
     have HBx := Lib.hid bx
     have H9b := Lib.hid (H9.out.below bx)
     have H8b := Lib.hid (H8.out.below bx)
     have hr0b := HR0.out.below bx
     have d00 : (w4.alloc (.cells #[Value.bool true, Value.slice A8 n8 c8] 25)).cell? ⟨w.heap.size, 0, none⟩ = some (.bool true) := hr0b.c0.trans (by rw [HSg.out])
     clear bx hs H8 HX hr0b
     go_wp2_with fail
     refine (bits_c H9b.out (by decide) v HB0.out).mono ?_
     rintro e w8 ⟨rfl, rfl⟩
     clear c00 d00
     generalize w4.alloc (.cells #[Value.bool true, Value.slice A8 n8 c8] 25) = w7 at *
     go_wp2
     refine region_free 3 1 [54, 55, 56] ?aF18 (fun wx => Below w7.heap.size w7 wx) (fun k vv wx => match k with
      | 0 => vv = .agg #[.bool true, .slice A8 n8 c8]
      | 1 => ∃ (e0 : Option Addr) (e1 : Nat) (e2 : Nat), vv = .agg #[.bool (sg (-1 : Int)), .slice e0 e1 e2] ∧ ZZ wx (sg (-1 : Int)) e0 e1 e2 (limbs (-1 : Int).natAbs) (-1 : Int) 2
      | _ => ∃ (e0 : Option Addr) (e1 : Nat) (e2 : Nat), vv = .agg #[.bool (sg z), .slice e0 e1 e2] ∧ ZZ wx (sg z) e0 e1 e2 (limbs z.natAbs) z 73)
      (fun k => false) (by kernel_rfl) ?haF18 rfl (by kernel_rfl) (by kernel_rfl) (fun _ _ _ _ _ h => h) ?hSb18 ?hPb18 ?hS18 ?hop18 ?hfin18
     case haF18 =>
      intro vals
      simp only [fillAll, List.getElem?_cons_zero, List.getElem?_cons_succ, Act.put, List.setIfInBounds_toArray, List.set_cons_zero, List.set_cons_succ]
      exact rfl
     case hSb18 => exact fun wx w2 hb hS => below_two hS hb
     case hPb18 =>
      intro k v wa wb hb h
      match k, h with
      | 0, h => exact h
      | 1, ⟨e0, e1, e2, h1, g0⟩ => exact ⟨e0, e1, e2, h1, g0.below hb⟩
      | _ + 2, ⟨e0, e1, e2, h1, g0⟩ => exact ⟨e0, e1, e2, h1, g0.below hb⟩
     case hS18 => exact (Below.refl _ _).drew
     case hop18 =>
      refine .cons (k := 0) ?_ (.cons (k := 1) ?_ (.cons (k := 2) ?_ (.nil)))
      all_goals intro vals wr hS hd KC hK
      all_goals (show Oper.wp _ _ _ _ _ _; dsimp only)
      · have z0 := (HV.out.below hS).c0
        have z1 := (HV.out.below hS).c1
        go_simp
        refine hK _ _ rfl (Below.refl _ _) (by first | rfl | simp) (fun h => by cases h)
      · go_simp
        go_at_call 32
        with_reducible refine (wOf_c (-1) (by decide) (by decide) _).mono ?_
        rintro e w2 ⟨r0, r1, r2, rfl, f0, bn_r⟩
        refine hK _ _ rfl bn_r ⟨_, _, _, rfl, f0⟩ (fun h => by cases h)
      · have d0 : vals 0 = _ := hd 0 (by decide +kernel)
        obtain ⟨A_1_0, n_1_1, n_1_2, d1, h_1_0⟩ := hd 1 (by decide +kernel)
        rw [d0, d1]
        go_simp
        go_at_call 76
        with_reducible refine (wAdd_c ((ZZ.of H8b.out : ZZ _ true _ _ _ _ _ _).below hS) h_1_0 73 (by decide) (by decide) (by decide) z HE.out).mono ?_
        rintro e w2 ⟨r0, r1, r2, rfl, f0, bn_r⟩
        refine hK _ _ rfl bn_r ⟨_, _, _, rfl, f0⟩ (fun h => by cases h)
     case hfin18 =>
      intro vals wr hS hP hne
      obtain ⟨A_2_0, n_2_1, n_2_2, ez_2, h_2_0⟩ := hP 2 (by decide)
      have hv := HV.out.below hS
      have e0 := hv.c0
      have e1 := hv.c1
      have f0 := hv.free 0
      have f1 := hv.free 1
      have HV2 := Lib.hid (hv.filled (.bool (sg z)) (.slice A_2_0 n_2_1 n_2_2))
      have HFl : RowKit.Hid (ZZ ((wr.setCell ⟨w4.heap.size, 0, none⟩ (.bool (sg z))).setCell ⟨w4.heap.size, 1, none⟩ (.slice A_2_0 n_2_1 n_2_2)) (sg z) A_2_0 n_2_1 n_2_2 (limbs z.natAbs) z 73) := ⟨h_2_0.nn.put2 hv (.bool (sg z)) (.slice A_2_0 n_2_1 n_2_2), h_2_0.sgn⟩
      have hB := below_fill (below_two HBx.out hS) (Nat.le_refl _) (.bool (sg z)) (.slice A_2_0 n_2_1 n_2_2)
      replace HY := Lib.hid (HY.out.below hB)
      replace HR0 := Lib.hid (HR0.out.below hB)
      replace HZ := Lib.hid (HZ.out.below hB)
      replace H9 := Lib.hid (H9.out.below hB)
      replace HW := Lib.hid (below_two HW.out hB)
      clear hB hv HV
      try dsimp only
      rw [ez_2]
      refine wpAny_ready (rs := [3]) (by kernel_rfl) (by simp) (AllReady.cons rfl (fun KC hK => ?_) AllReady.nil)
      go_simp
      refine hK _ _ ?_
      clear hK KC
      refine wpAny_done (by kernel_rfl) ?_ _
      generalize (wr.setCell ⟨w4.heap.size, 0, none⟩ (.bool (sg z))).setCell ⟨w4.heap.size, 1, none⟩ (.slice A_2_0 n_2_1 n_2_2) = w9 at *
      clear e0 e1 f0 f1
      have d02 := HR0.out.c2
      go_wp2_with fail
      clear d02
      refine (sub_c HY.out H9.out (by decide) (by decide)).mono ?_
      rintro e w10 ⟨A10, n10, c10, rfl, h10, bn⟩
      have HLf : RowKit.Hid (NN w10 A10 n10 c10 (limbs l) l 64) := by show NN _ _ _ _ _ _ _; rw [HL.out]; exact h10
      replace HY := Lib.hid (HY.out.below bn)
      replace HR0 := Lib.hid (HR0.out.below bn)
      replace HZ := Lib.hid (HZ.out.below bn)
      replace HV2 := Lib.hid (HV2.out.below bn)
      replace HFl := Lib.hid (HFl.out.below bn)
      replace HW := Lib.hid (below_two HW.out bn)
      clear bn h10
      have d02 := HR0.out.c2
      have v0 := HV2.out.c0
      have v1 := HV2.out.c1
      have hNo := HZ.out.noLimb (by intro v e; cases e) (by intro v e; cases e) (by intro v e; cases e) (by intro v e; cases e)
      have HSC : RowKit.Hid (SC ((((w10.setCell ⟨w.heap.size + 1, 0, none⟩ (.bool (sg z))).setCell ⟨w.heap.size + 1, 1, none⟩ (.slice A_2_0 n_2_1 n_2_2)).setCell ⟨w.heap.size + 1, 2, none⟩ (.slice A10 n10 c10)).setCell ⟨w.heap.size + 1, 3, none⟩ (.slice B m d)) A_2_0 n_2_1 n_2_2 A10 n10 c10 B m d z l q.den) := ⟨HFl.out.fillR4 hNo (.bool (sg z)) (.slice A_2_0 n_2_1 n_2_2) (.slice A10 n10 c10) (.slice B m d), HLf.out.fillR4 hNo (.bool (sg z)) (.slice A_2_0 n_2_1 n_2_2) (.slice A10 n10 c10) (.slice B m d), HY.out.fillR4 hNo (.bool (sg z)) (.slice A_2_0 n_2_1 n_2_2) (.slice A10 n10 c10) (.slice B m d)⟩
      clear hNo
      have e0 := HZ.out.c0
      have e1 := HZ.out.c1
      have e2 := HZ.out.c2
      have e3 := HZ.out.c3
      have f0 := HZ.out.free 0
      have f1 := HZ.out.free 1
      have f2 := HZ.out.free 2
      have f3 := HZ.out.free 3
      have HF := Lib.hid (HZ.out.fill (.bool (sg z)) (.slice A_2_0 n_2_1 n_2_2) (.slice A10 n10 c10) (.slice B m d))
      have HB := Lib.hid (below_fill4 HW.out Hq.out (.bool (sg z)) (.slice A_2_0 n_2_1 n_2_2) (.slice A10 n10 c10) (.slice B m d))
      go_wp2
      refine bodyPost_ret (results_mixed rfl _ _ _ 83 #[.bool (sg z), .slice A_2_0 n_2_1 n_2_2, .slice A10 n10 c10, .slice B m d] (0, 0) _ (.int .i64 0) rfl rfl HF.out Tryz.underlying83 rfl sc_size) rfl ?_
      exact ⟨A_2_0, n_2_1, n_2_2, A10, n10, c10, B, m, d, rfl, HSC.out, HB.out⟩
end
end Go.Proofs.YtjikaojffgjndaaGreatDoor

/- What package decimal's tell, Down, Up, Near and Floor tell, as contracts over memory. Conditions: sizes of at most so many limbs; the table of powers of ten. -/
namespace Go.Proofs.YtjikaojffgjndaaGreatDoor
open Go.RowKit Limb
set_option linter.unusedVariables false
theorem zz_zero (w : World) : ZZ w (sg 0) none 0 0 (limbs (0 : Int).natAbs) 0 74 := by
 have e : limbs (0 : Int).natAbs = [] := limbs_zero
 rw [e]
 exact ⟨⟨IsN.nil _ _, rfl, Nat.le_refl _, Nat.zero_le _⟩, rfl⟩
section
variable {w : World} {s s' : Bool} {A B A' B' : Option Addr} {n c m d n' c' m' d' : Nat} {xs ys xs' ys' : List Nat} {x y z : Int} {q : Rat} {o : Option Rat} {l : Nat} {a b L L' : Nat}
set_option maxHeartbeats 4000000 in
set_option maxRecDepth 100000 in
theorem dTell_down (hx : QQ w s A n c xs B m d ys o L) (h1 : L ≤ 1000) (T : Tab w) (p : Int) (p0 : -9223372036854775808 ≤ p) (p1 : p ≤ 9223372036854775807) (S : ByteArray) (e : Int) (hR : decR Rat.floor o p = (S, e)) :
 Calls Tryz.prog 49 #[.agg #[.bool s, .slice A n c, .slice B m d], .int .i64 p, .func (.func 50) #[] #[]] w fun ee w' => ee = .returned (.tuple #[.string S, .int .i64 e]) ∧ Below w.heap.size w w' := by
 obtain ⟨b, hb⟩ : ∃ b, (o.isSome && (decide (0 ≤ p) && decide (p ≤ 60))) = b := ⟨_, rfl⟩
 cases b with
 | false =>
  rw [decR_no Rat.floor hb] at hR
  cases hR
  have b0 := below_new w (.cells #[Value.bool s, Value.slice A n c, Value.slice B m d] 27)
  have HW := Lib.hid b0
  have HQ := Lib.hid (hx.below HW.out)
  have HTb := Lib.hid (T.below HW.out)
  have r0 := (row3_new w 27 (.bool s) (.slice A n c) (.slice B m d))
  have HR0 := Lib.hid r0
  clear b0 r0 hx T
  go_enter Tryz.func49, Tryz.ntmps49
  have c00 := HR0.out.c0
  have c01 := HR0.out.c1
  have c02 := HR0.out.c2
  go_wp2_with fail
  clear c00 c01 c02
  generalize w.alloc (.cells #[Value.bool s, Value.slice A n c, Value.slice B m d] 27) = w1 at *
  refine (scScale_no HQ.out h1 HTb.out p p0 p1 hb).mono ?_
  rintro e w2 ⟨rfl, bn⟩
  have HB := Lib.hid (below_two HW.out (below_two bn (below_new w2 (.cells #[Value.bool false, Value.slice none 0 0, Value.slice none 0 0, Value.slice none 0 0] 83))))
  clear bn
  go_wp2
  go_ret2
  exact ⟨rfl, HB.out⟩
 | true =>
  cases o with
  | none => cases hb
  | some q =>
   have hb2 : (decide (0 ≤ p) && decide (p ≤ 60)) = true := hb
   simp only [Bool.and_eq_true, decide_eq_true_eq] at hb2
   obtain ⟨P, rfl⟩ : ∃ P : Nat, p = (P : Int) := ⟨p.toNat, by omega⟩
   have hP : P ≤ 60 := by omega
   clear hb p0 p1 hb2
   obtain ⟨S2, hS2⟩ : ∃ S2, strOf (pointT (Rat.floor (movedQ q P)) P) = S2 := ⟨_, rfl⟩
   rw [decR_yes Rat.floor hP hS2] at hR
   cases hR
   have hR2 := hS2
   clear hS2
   obtain ⟨z, hz⟩ : ∃ z, (movedQ q P).floor = z := ⟨_, rfl⟩
   obtain ⟨l, hl⟩ : ∃ l, leftQ q P = l := ⟨_, rfl⟩
   have HZ0 := Lib.hid hz
   have HL0 := Lib.hid hl
   rw [hz] at hR2
   have HDg : RowKit.Hid ((decT z.natAbs).length ≤ 699) := by
    show _ ≤ _
    rw [← hz]; exact room_digits hx.some.2.2.2.1 hP (Int.le_refl _) (by omega)
   have HS := Lib.hid hR2
   clear hR2 hz hl
   have b0 := below_new w (.cells #[Value.bool s, Value.slice A n c, Value.slice B m d] 27)
   have HW := Lib.hid b0
   have HQ := Lib.hid (hx.below HW.out)
   have HTb := Lib.hid (T.below HW.out)
   have r0 := (row3_new w 27 (.bool s) (.slice A n c) (.slice B m d))
   have HR0 := Lib.hid r0
   clear b0 r0 hx T
   go_enter Tryz.func49, Tryz.ntmps49
   have c00 := HR0.out.c0
   have c01 := HR0.out.c1
   have c02 := HR0.out.c2
   go_wp2_with fail
   clear c00 c01 c02
   generalize w.alloc (.cells #[Value.bool s, Value.slice A n c, Value.slice B m d] 27) = w1 at *
   refine (scScale_yes HQ.out h1 HTb.out P hP z HZ0.out l HL0.out).mono ?_
   rintro e w2 ⟨A8, n8, c8, A9, n9, c9, B9, m9, d9, rfl, h8, bn⟩
   have bx := below_new w2 (.cells #[Value.bool (sg z), Value.slice A8 n8 c8, Value.slice A9 n9 c9, Value.slice B9 m9 d9] 83)
   have HSC := Lib.hid (h8.below bx)
   have r8 := row4_new w2 83 (.bool (sg z)) (.slice A8 n8 c8) (.slice A9 n9 c9) (.slice B9 m9 d9)
   have HTx := Lib.hid ((HTb.out.below bn).below bx)
   replace HW := Lib.hid (below_two HW.out (below_two bn bx))
   have d0 := r8.c0
   have d1 := r8.c1
   have d2 := r8.c2
   have d3 := r8.c3
   clear bn bx r8 h8
   go_wp2_with fail
   clear d0 d1 d2 d3
   generalize w2.alloc (.cells #[Value.bool (sg z), Value.slice A8 n8 c8, Value.slice A9 n9 c9, Value.slice B9 m9 d9] 83) = w3 at *
   refine (scDown_c HSC.out).mono ?_
   rintro e w4 ⟨A2, n2, c2, rfl, h2, bn⟩
   have H2 := Lib.hid h2
   replace HTx := Lib.hid (HTx.out.below bn)
   replace HW := Lib.hid (below_two HW.out bn)
   clear bn h2
   go_wp2_with fail
   refine (dPoint_c H2.out (by decide) HTx.out P hP HDg.out S HS.out).mono ?_
   rintro e w5 ⟨rfl, bn⟩
   replace HW := Lib.hid (below_two HW.out bn)
   clear bn
   go_wp2
   go_ret2
   exact ⟨rfl, HW.out⟩
set_option maxHeartbeats 4000000 in
set_option maxRecDepth 100000 in
theorem dTell_up (hx : QQ w s A n c xs B m d ys o L) (h1 : L ≤ 1000) (T : Tab w) (p : Int) (p0 : -9223372036854775808 ≤ p) (p1 : p ≤ 9223372036854775807) (S : ByteArray) (e : Int) (hR : decR Rat.ceil o p = (S, e)) :
 Calls Tryz.prog 49 #[.agg #[.bool s, .slice A n c, .slice B m d], .int .i64 p, .func (.func 51) #[] #[]] w fun ee w' => ee = .returned (.tuple #[.string S, .int .i64 e]) ∧ Below w.heap.size w w' := by
 obtain ⟨b, hb⟩ : ∃ b, (o.isSome && (decide (0 ≤ p) && decide (p ≤ 60))) = b := ⟨_, rfl⟩
 cases b with
 | false =>
  rw [decR_no Rat.ceil hb] at hR
  cases hR
  have b0 := below_new w (.cells #[Value.bool s, Value.slice A n c, Value.slice B m d] 27)
  have HW := Lib.hid b0
  have HQ := Lib.hid (hx.below HW.out)
  have HTb := Lib.hid (T.below HW.out)
  have r0 := (row3_new w 27 (.bool s) (.slice A n c) (.slice B m d))
  have HR0 := Lib.hid r0
  clear b0 r0 hx T
  go_enter Tryz.func49, Tryz.ntmps49
  have c00 := HR0.out.c0
  have c01 := HR0.out.c1
  have c02 := HR0.out.c2
  go_wp2_with fail
  clear c00 c01 c02
  generalize w.alloc (.cells #[Value.bool s, Value.slice A n c, Value.slice B m d] 27) = w1 at *
  refine (scScale_no HQ.out h1 HTb.out p p0 p1 hb).mono ?_
  rintro e w2 ⟨rfl, bn⟩
  have HB := Lib.hid (below_two HW.out (below_two bn (below_new w2 (.cells #[Value.bool false, Value.slice none 0 0, Value.slice none 0 0, Value.slice none 0 0] 83))))
  clear bn
  go_wp2
  go_ret2
  exact ⟨rfl, HB.out⟩
 | true =>
  cases o with
  | none => cases hb
  | some q =>
   have hb2 : (decide (0 ≤ p) && decide (p ≤ 60)) = true := hb
   simp only [Bool.and_eq_true, decide_eq_true_eq] at hb2
   obtain ⟨P, rfl⟩ : ∃ P : Nat, p = (P : Int) := ⟨p.toNat, by omega⟩
   have hP : P ≤ 60 := by omega
   clear hb p0 p1 hb2
   obtain ⟨S2, hS2⟩ : ∃ S2, strOf (pointT (Rat.ceil (movedQ q P)) P) = S2 := ⟨_, rfl⟩
   rw [decR_yes Rat.ceil hP hS2] at hR
   cases hR
   have hR2 := hS2
   clear hS2
   obtain ⟨z, hz⟩ : ∃ z, (movedQ q P).floor = z := ⟨_, rfl⟩
   obtain ⟨l, hl⟩ : ∃ l, leftQ q P = l := ⟨_, rfl⟩
   have HZ0 := Lib.hid hz
   have HL0 := Lib.hid hl
   obtain ⟨z1, hz1⟩ : ∃ z1, (movedQ q P).ceil = z1 := ⟨_, rfl⟩
   have HE : RowKit.Hid ((if l = 0 then z else z + 1) = z1) := by show _ = _; rw [← hz1, left_ceil, hz, hl]
   rw [hz1] at hR2
   have HDg : RowKit.Hid ((decT z1.natAbs).length ≤ 699) := by
    show _ ≤ _
    rw [← hz1]; exact room_digits hx.some.2.2.2.1 hP ((ceil_between _).1) ((ceil_between _).2)
   have HS := Lib.hid hR2
   clear hR2 hz hl hz1
   have b0 := below_new w (.cells #[Value.bool s, Value.slice A n c, Value.slice B m d] 27)
   have HW := Lib.hid b0
   have HQ := Lib.hid (hx.below HW.out)
   have HTb := Lib.hid (T.below HW.out)
   have r0 := (row3_new w 27 (.bool s) (.slice A n c) (.slice B m d))
   have HR0 := Lib.hid r0
   clear b0 r0 hx T
   go_enter Tryz.func49, Tryz.ntmps49
   have c00 := HR0.out.c0
   have c01 := HR0.out.c1
   have c02 := HR0.out.c2
   go_wp2_with fail
   clear c00 c01 c02
   generalize w.alloc (.cells #[Value.bool s, Value.slice A n c, Value.slice B m d] 27) = w1 at *
   refine (scScale_yes HQ.out h1 HTb.out P hP z HZ0.out l HL0.out).mono ?_
   rintro e w2 ⟨A8, n8, c8, A9, n9, c9, B9, m9, d9, rfl, h8, bn⟩
   have bx := below_new w2 (.cells #[Value.bool (sg z), Value.slice A8 n8 c8, Value.slice A9 n9 c9, Value.slice B9 m9 d9] 83)
   have HSC := Lib.hid (h8.below bx)
   have r8 := row4_new w2 83 (.bool (sg z)) (.slice A8 n8 c8) (.slice A9 n9 c9) (.slice B9 m9 d9)
   have HTx := Lib.hid ((HTb.out.below bn).below bx)
   replace HW := Lib.hid (below_two HW.out (below_two bn bx))
   have d0 := r8.c0
   have d1 := r8.c1
   have d2 := r8.c2
   have d3 := r8.c3
   clear bn bx r8 h8
   go_wp2_with fail
   clear d0 d1 d2 d3
   generalize w2.alloc (.cells #[Value.bool (sg z), Value.slice A8 n8 c8, Value.slice A9 n9 c9, Value.slice B9 m9 d9] 83) = w3 at *
   refine (scUp_c HSC.out z1 HE.out).mono ?_
   rintro e w4 ⟨A2, n2, c2, rfl, h2, bn⟩
   have H2 := Lib.hid h2
   replace HTx := Lib.hid (HTx.out.below bn)
   replace HW := Lib.hid (below_two HW.out bn)
   clear bn h2
   go_wp2_with fail
   refine (dPoint_c H2.out (by decide) HTx.out P hP HDg.out S HS.out).mono ?_
   rintro e w5 ⟨rfl, bn⟩
   replace HW := Lib.hid (below_two HW.out bn)
   clear bn
   go_wp2
   go_ret2
   exact ⟨rfl, HW.out⟩
set_option maxHeartbeats 4000000 in
set_option maxRecDepth 100000 in
theorem dTell_near (hx : QQ w s A n c xs B m d ys o L) (h1 : L ≤ 1000) (T : Tab w) (p : Int) (p0 : -9223372036854775808 ≤ p) (p1 : p ≤ 9223372036854775807) (S : ByteArray) (e : Int) (hR : decR nearQ o p = (S, e)) :
 Calls Tryz.prog 49 #[.agg #[.bool s, .slice A n c, .slice B m d], .int .i64 p, .func (.func 52) #[] #[]] w fun ee w' => ee = .returned (.tuple #[.string S, .int .i64 e]) ∧ Below w.heap.size w w' := by
 obtain ⟨b, hb⟩ : ∃ b, (o.isSome && (decide (0 ≤ p) && decide (p ≤ 60))) = b := ⟨_, rfl⟩
 cases b with
 | false =>
  rw [decR_no nearQ hb] at hR
  cases hR
  have b0 := below_new w (.cells #[Value.bool s, Value.slice A n c, Value.slice B m d] 27)
  have HW := Lib.hid b0
  have HQ := Lib.hid (hx.below HW.out)
  have HTb := Lib.hid (T.below HW.out)
  have r0 := (row3_new w 27 (.bool s) (.slice A n c) (.slice B m d))
  have HR0 := Lib.hid r0
  clear b0 r0 hx T
  go_enter Tryz.func49, Tryz.ntmps49
  have c00 := HR0.out.c0
  have c01 := HR0.out.c1
  have c02 := HR0.out.c2
  go_wp2_with fail
  clear c00 c01 c02
  generalize w.alloc (.cells #[Value.bool s, Value.slice A n c, Value.slice B m d] 27) = w1 at *
  refine (scScale_no HQ.out h1 HTb.out p p0 p1 hb).mono ?_
  rintro e w2 ⟨rfl, bn⟩
  have HB := Lib.hid (below_two HW.out (below_two bn (below_new w2 (.cells #[Value.bool false, Value.slice none 0 0, Value.slice none 0 0, Value.slice none 0 0] 83))))
  clear bn
  go_wp2
  go_ret2
  exact ⟨rfl, HB.out⟩
 | true =>
  cases o with
  | none => cases hb
  | some q =>
   have hb2 : (decide (0 ≤ p) && decide (p ≤ 60)) = true := hb
   simp only [Bool.and_eq_true, decide_eq_true_eq] at hb2
   obtain ⟨P, rfl⟩ : ∃ P : Nat, p = (P : Int) := ⟨p.toNat, by omega⟩
   have hP : P ≤ 60 := by omega
   clear hb p0 p1 hb2
   obtain ⟨S2, hS2⟩ : ∃ S2, strOf (pointT (nearQ (movedQ q P)) P) = S2 := ⟨_, rfl⟩
   rw [decR_yes nearQ hP hS2] at hR
   cases hR
   have hR2 := hS2
   clear hS2
   obtain ⟨z, hz⟩ : ∃ z, (movedQ q P).floor = z := ⟨_, rfl⟩
   obtain ⟨l, hl⟩ : ∃ l, leftQ q P = l := ⟨_, rfl⟩
   have HZ0 := Lib.hid hz
   have HL0 := Lib.hid hl
   obtain ⟨z1, hz1⟩ : ∃ z1, nearQ (movedQ q P) = z1 := ⟨_, rfl⟩
   have HE : RowKit.Hid ((if 0 < cmpI (l * 2) q.den ∨ (cmpI (l * 2) q.den = 0 ∧ z.natAbs % 2 = 1) then z + 1 else z) = z1) := by show _ = _; rw [← hz1, left_near, hz, hl]
   rw [hz1] at hR2
   have HDg : RowKit.Hid ((decT z1.natAbs).length ≤ 699) := by
    show _ ≤ _
    rw [← hz1]; exact room_digits hx.some.2.2.2.1 hP ((near_between _).1) ((near_between _).2)
   have HS := Lib.hid hR2
   clear hR2 hz hl hz1
   have b0 := below_new w (.cells #[Value.bool s, Value.slice A n c, Value.slice B m d] 27)
   have HW := Lib.hid b0
   have HQ := Lib.hid (hx.below HW.out)
   have HTb := Lib.hid (T.below HW.out)
   have r0 := (row3_new w 27 (.bool s) (.slice A n c) (.slice B m d))
   have HR0 := Lib.hid r0
   clear b0 r0 hx T
   go_enter Tryz.func49, Tryz.ntmps49
   have c00 := HR0.out.c0
   have c01 := HR0.out.c1
   have c02 := HR0.out.c2
   go_wp2_with fail
   clear c00 c01 c02
   generalize w.alloc (.cells #[Value.bool s, Value.slice A n c, Value.slice B m d] 27) = w1 at *
   refine (scScale_yes HQ.out h1 HTb.out P hP z HZ0.out l HL0.out).mono ?_
   rintro e w2 ⟨A8, n8, c8, A9, n9, c9, B9, m9, d9, rfl, h8, bn⟩
   have bx := below_new w2 (.cells #[Value.bool (sg z), Value.slice A8 n8 c8, Value.slice A9 n9 c9, Value.slice B9 m9 d9] 83)
   have HSC := Lib.hid (h8.below bx)
   have r8 := row4_new w2 83 (.bool (sg z)) (.slice A8 n8 c8) (.slice A9 n9 c9) (.slice B9 m9 d9)
   have HTx := Lib.hid ((HTb.out.below bn).below bx)
   replace HW := Lib.hid (below_two HW.out (below_two bn bx))
   have d0 := r8.c0
   have d1 := r8.c1
   have d2 := r8.c2
   have d3 := r8.c3
   clear bn bx r8 h8
   go_wp2_with fail
   clear d0 d1 d2 d3
   generalize w2.alloc (.cells #[Value.bool (sg z), Value.slice A8 n8 c8, Value.slice A9 n9 c9, Value.slice B9 m9 d9] 83) = w3 at *
   refine (scNear_c HSC.out z1 HE.out).mono ?_
   rintro e w4 ⟨A2, n2, c2, rfl, h2, bn⟩
   have H2 := Lib.hid h2
   replace HTx := Lib.hid (HTx.out.below bn)
   replace HW := Lib.hid (below_two HW.out bn)
   clear bn h2
   go_wp2_with fail
   refine (dPoint_c H2.out (by decide) HTx.out P hP HDg.out S HS.out).mono ?_
   rintro e w5 ⟨rfl, bn⟩
   replace HW := Lib.hid (below_two HW.out bn)
   clear bn
   go_wp2
   go_ret2
   exact ⟨rfl, HW.out⟩
set_option maxHeartbeats 4000000 in
set_option maxRecDepth 100000 in
theorem dDown_c (hx : QQ w s A n c xs B m d ys o L) (h1 : L ≤ 1000) (T : Tab w) (p : Int) (p0 : -9223372036854775808 ≤ p) (p1 : p ≤ 9223372036854775807) (S : ByteArray) (e : Int) (hR : decR Rat.floor o p = (S, e)) :
 Calls Tryz.prog 14 #[.agg #[.bool s, .slice A n c, .slice B m d], .int .i64 p] w fun ee w' => ee = .returned (.tuple #[.string S, .int .i64 e]) ∧ Below w.heap.size w w' := by
 have b0 := below_new w (.cells #[Value.bool s, Value.slice A n c, Value.slice B m d] 27)
 have HW := Lib.hid b0
 have HQ := Lib.hid (hx.below HW.out)
 have HTb := Lib.hid (T.below HW.out)
 have r0 := (row3_new w 27 (.bool s) (.slice A n c) (.slice B m d))
 have HR0 := Lib.hid r0
 clear b0 r0 hx T
 go_enter Tryz.func14, Tryz.ntmps14
 have c00 := HR0.out.c0
 have c01 := HR0.out.c1
 have c02 := HR0.out.c2
 go_wp2_with fail
 clear c00 c01 c02
 generalize w.alloc (.cells #[Value.bool s, Value.slice A n c, Value.slice B m d] 27) = w1 at *
 refine (dTell_down HQ.out h1 HTb.out p p0 p1 S e hR).mono ?_
 rintro ee w2 ⟨rfl, bn⟩
 replace HW := Lib.hid (below_two HW.out bn)
 clear bn
 go_wp2
 go_ret2
 exact ⟨rfl, HW.out⟩
set_option maxHeartbeats 4000000 in
set_option maxRecDepth 100000 in
theorem dUp_c (hx : QQ w s A n c xs B m d ys o L) (h1 : L ≤ 1000) (T : Tab w) (p : Int) (p0 : -9223372036854775808 ≤ p) (p1 : p ≤ 9223372036854775807) (S : ByteArray) (e : Int) (hR : decR Rat.ceil o p = (S, e)) :
 Calls Tryz.prog 15 #[.agg #[.bool s, .slice A n c, .slice B m d], .int .i64 p] w fun ee w' => ee = .returned (.tuple #[.string S, .int .i64 e]) ∧ Below w.heap.size w w' := by
 have b0 := below_new w (.cells #[Value.bool s, Value.slice A n c, Value.slice B m d] 27)
 have HW := Lib.hid b0
 have HQ := Lib.hid (hx.below HW.out)
 have HTb := Lib.hid (T.below HW.out)
 have r0 := (row3_new w 27 (.bool s) (.slice A n c) (.slice B m d))
 have HR0 := Lib.hid r0
 clear b0 r0 hx T
 go_enter Tryz.func15, Tryz.ntmps15
 have c00 := HR0.out.c0
 have c01 := HR0.out.c1
 have c02 := HR0.out.c2
 go_wp2_with fail
 clear c00 c01 c02
 generalize w.alloc (.cells #[Value.bool s, Value.slice A n c, Value.slice B m d] 27) = w1 at *
 refine (dTell_up HQ.out h1 HTb.out p p0 p1 S e hR).mono ?_
 rintro ee w2 ⟨rfl, bn⟩
 replace HW := Lib.hid (below_two HW.out bn)
 clear bn
 go_wp2
 go_ret2
 exact ⟨rfl, HW.out⟩
set_option maxHeartbeats 4000000 in
set_option maxRecDepth 100000 in
theorem dNear_c (hx : QQ w s A n c xs B m d ys o L) (h1 : L ≤ 1000) (T : Tab w) (p : Int) (p0 : -9223372036854775808 ≤ p) (p1 : p ≤ 9223372036854775807) (S : ByteArray) (e : Int) (hR : decR nearQ o p = (S, e)) :
 Calls Tryz.prog 16 #[.agg #[.bool s, .slice A n c, .slice B m d], .int .i64 p] w fun ee w' => ee = .returned (.tuple #[.string S, .int .i64 e]) ∧ Below w.heap.size w w' := by
 have b0 := below_new w (.cells #[Value.bool s, Value.slice A n c, Value.slice B m d] 27)
 have HW := Lib.hid b0
 have HQ := Lib.hid (hx.below HW.out)
 have HTb := Lib.hid (T.below HW.out)
 have r0 := (row3_new w 27 (.bool s) (.slice A n c) (.slice B m d))
 have HR0 := Lib.hid r0
 clear b0 r0 hx T
 go_enter Tryz.func16, Tryz.ntmps16
 have c00 := HR0.out.c0
 have c01 := HR0.out.c1
 have c02 := HR0.out.c2
 go_wp2_with fail
 clear c00 c01 c02
 generalize w.alloc (.cells #[Value.bool s, Value.slice A n c, Value.slice B m d] 27) = w1 at *
 refine (dTell_near HQ.out h1 HTb.out p p0 p1 S e hR).mono ?_
 rintro ee w2 ⟨rfl, bn⟩
 replace HW := Lib.hid (below_two HW.out bn)
 clear bn
 go_wp2
 go_ret2
 exact ⟨rfl, HW.out⟩
set_option maxHeartbeats 4000000 in
set_option maxRecDepth 100000 in
theorem dFloor_c (hx : QQ w s A n c xs B m d ys o L) (h1 : L ≤ 1000) (T : Tab w) (p : Int) (p0 : -9223372036854775808 ≤ p) (p1 : p ≤ 9223372036854775807) (z : Int) (e : Int) (hR : decF o p = (z, e)) :
 Calls Tryz.prog 17 #[.agg #[.bool s, .slice A n c, .slice B m d], .int .i64 p] w fun ee w' => ∃ A2 n2 c2, ee = .returned (.tuple #[.agg #[.bool (sg z), .slice A2 n2 c2], .int .i64 e]) ∧ ZZ w' (sg z) A2 n2 c2 (limbs z.natAbs) z 74 ∧ Below w.heap.size w w' := by
 obtain ⟨b, hb⟩ : ∃ b, (o.isSome && (decide (0 ≤ p) && decide (p ≤ 60))) = b := ⟨_, rfl⟩
 cases b with
 | false =>
  rw [decF_no hb] at hR
  cases hR
  have b0 := below_new w (.cells #[Value.bool s, Value.slice A n c, Value.slice B m d] 27)
  have bz := below_new (w.alloc (.cells #[Value.bool s, Value.slice A n c, Value.slice B m d] 27)) zbox
  have HW := Lib.hid (below_two b0 bz)
  have HQ := Lib.hid (hx.below HW.out)
  have HTb := Lib.hid (T.below HW.out)
  have r0 := (row3_new w 27 (.bool s) (.slice A n c) (.slice B m d)).below bz
  have rz : ZB ((w.alloc (.cells #[Value.bool s, Value.slice A n c, Value.slice B m d] 27)).alloc zbox) (w.alloc (.cells #[Value.bool s, Value.slice A n c, Value.slice B m d] 27)).heap.size := row2_new (w.alloc (.cells #[Value.bool s, Value.slice A n c, Value.slice B m d] 27)) _ _ _
  simp only [World.size_alloc] at rz
  have HZ := Lib.hid rz
  have Hq : RowKit.Hid (w.heap.size ≤ w.heap.size + 1) := Nat.le_succ _
  have HR0 := Lib.hid r0
  clear b0 bz rz r0 hx T
  go_enter Tryz.func17, Tryz.ntmps17
  have c00 := HR0.out.c0
  have c01 := HR0.out.c1
  have c02 := HR0.out.c2
  go_wp2_with fail
  clear c00 c01 c02
  generalize (w.alloc (.cells #[Value.bool s, Value.slice A n c, Value.slice B m d] 27)).alloc zbox = w1 at *
  refine (scScale_no HQ.out h1 HTb.out p p0 p1 hb).mono ?_
  rintro e w2 ⟨rfl, bn⟩
  have bx := below_new w2 (.cells #[Value.bool false, Value.slice none 0 0, Value.slice none 0 0, Value.slice none 0 0] 83)
  have r8 := row4_new w2 83 (.bool false) (.slice none 0 0) (.slice none 0 0) (.slice none 0 0)
  replace HZ := Lib.hid ((HZ.out.below bn).below bx)
  replace HW := Lib.hid (below_two HW.out (below_two bn bx))
  have HN0 := Lib.hid (zz_zero (w2.alloc (.cells #[Value.bool false, Value.slice none 0 0, Value.slice none 0 0, Value.slice none 0 0] 83)))
  have d0 := r8.c0
  have d1 := r8.c1
  clear bn bx r8
  obtain ⟨e0, e1, f0, f1⟩ := HZ.out.cells
  have HF := Lib.hid (HZ.out.fill (.bool false) (.slice none 0 0))
  have HPt := Lib.hid (HN0.out.put HZ.out (.bool false) (.slice none 0 0))
  have HB := Lib.hid (below_fill HW.out Hq.out (.bool false) (.slice none 0 0))
  go_wp2
  refine bodyPost_ret (results_mixed rfl _ _ (w.heap.size + 1) 25 #[.bool false, .slice none 0 0] (0, 0) _ (.int .i64 1) rfl rfl HF.out Tryz.underlying25 rfl int_size) rfl ?_
  exact ⟨none, 0, 0, rfl, HPt.out, HB.out⟩
 | true =>
  cases o with
  | none => cases hb
  | some q =>
   have hb2 : (decide (0 ≤ p) && decide (p ≤ 60)) = true := hb
   simp only [Bool.and_eq_true, decide_eq_true_eq] at hb2
   obtain ⟨P, rfl⟩ : ∃ P : Nat, p = (P : Int) := ⟨p.toNat, by omega⟩
   have hP : P ≤ 60 := by omega
   clear hb p0 p1 hb2
   obtain ⟨z, hz⟩ : ∃ z, (movedQ q P).floor = z := ⟨_, rfl⟩
   obtain ⟨l, hl⟩ : ∃ l, leftQ q P = l := ⟨_, rfl⟩
   have HZ0 := Lib.hid hz
   have HL0 := Lib.hid hl
   rw [decF_yes hP hz] at hR
   cases hR
   clear hz hl
   have b0 := below_new w (.cells #[Value.bool s, Value.slice A n c, Value.slice B m d] 27)
   have bz := below_new (w.alloc (.cells #[Value.bool s, Value.slice A n c, Value.slice B m d] 27)) zbox
   have HW := Lib.hid (below_two b0 bz)
   have HQ := Lib.hid (hx.below HW.out)
   have HTb := Lib.hid (T.below HW.out)
   have r0 := (row3_new w 27 (.bool s) (.slice A n c) (.slice B m d)).below bz
   have rz : ZB ((w.alloc (.cells #[Value.bool s, Value.slice A n c, Value.slice B m d] 27)).alloc zbox) (w.alloc (.cells #[Value.bool s, Value.slice A n c, Value.slice B m d] 27)).heap.size := row2_new (w.alloc (.cells #[Value.bool s, Value.slice A n c, Value.slice B m d] 27)) _ _ _
   simp only [World.size_alloc] at rz
   have HZ := Lib.hid rz
   have Hq : RowKit.Hid (w.heap.size ≤ w.heap.size + 1) := Nat.le_succ _
   have HR0 := Lib.hid r0
   clear b0 bz rz r0 hx T
   go_enter Tryz.func17, Tryz.ntmps17
   have c00 := HR0.out.c0
   have c01 := HR0.out.c1
   have c02 := HR0.out.c2
   go_wp2_with fail
   clear c00 c01 c02
   generalize (w.alloc (.cells #[Value.bool s, Value.slice A n c, Value.slice B m d] 27)).alloc zbox = w1 at *
   refine (scScale_yes HQ.out h1 HTb.out P hP z HZ0.out l HL0.out).mono ?_
   rintro e w2 ⟨A8, n8, c8, A9, n9, c9, B9, m9, d9, rfl, h8, bn⟩
   have bx := below_new w2 (.cells #[Value.bool (sg z), Value.slice A8 n8 c8, Value.slice A9 n9 c9, Value.slice B9 m9 d9] 83)
   have HSC := Lib.hid (h8.below bx)
   have r8 := row4_new w2 83 (.bool (sg z)) (.slice A8 n8 c8) (.slice A9 n9 c9) (.slice B9 m9 d9)
   replace HZ := Lib.hid ((HZ.out.below bn).below bx)
   replace HW := Lib.hid (below_two HW.out (below_two bn bx))
   have d0 := r8.c0
   have d1 := r8.c1
   clear bn bx r8 h8
   obtain ⟨e0, e1, f0, f1⟩ := HZ.out.cells
   have HF := Lib.hid (HZ.out.fill (.bool (sg z)) (.slice A8 n8 c8))
   have HPt := Lib.hid (HSC.out.fl.put HZ.out (.bool (sg z)) (.slice A8 n8 c8))
   have HB := Lib.hid (below_fill HW.out Hq.out (.bool (sg z)) (.slice A8 n8 c8))
   go_wp2
   refine bodyPost_ret (results_mixed rfl _ _ (w.heap.size + 1) 25 #[.bool (sg z), .slice A8 n8 c8] (0, 0) _ (.int .i64 0) rfl rfl HF.out Tryz.underlying25 rfl int_size) rfl ?_
   exact ⟨A8, n8, c8, rfl, zz_up HPt.out (by decide), HB.out⟩
end
end Go.Proofs.YtjikaojffgjndaaGreatDoor

/- What package whole's Text answers, as a contract over memory: whole numbers in the shortest limbs, 0 not below 0. Conditions: sizes of at most so many limbs; the table of powers of ten where texts are made or read. -/
namespace Go.Proofs.YtjikaojffgjndaaGreatDoor
open Go.RowKit Limb
set_option linter.unusedVariables false
section
variable {w : World} {s s' : Bool} {A A' : Option Addr} {n c n' c' : Nat} {xs ys : List Nat} {x y : Int} {L L' : Nat}
set_option maxHeartbeats 4000000 in
set_option maxRecDepth 100000 in
theorem wText_c (T : Tab w) (hx : ZZ w s A n c xs x L) (h1 : L ≤ 10000) (S : ByteArray) (hS : strOf (zT x) = S) :
 Calls Tryz.prog 37 #[.agg #[.bool s, .slice A n c]] w fun e w' => e = .returned (.string S) ∧ Below w.heap.size w w' := by
 have b0 := below_new w (.cells #[Value.bool s, Value.slice A n c] 25)
 have HW := Lib.hid b0
 have HN := Lib.hid (hx.below b0)
 have r0 := row2_new w 25 (.bool s) (.slice A n c)
 have c00 := r0.c0
 have c01 := r0.c1
 have HT := Lib.hid T
 clear b0 hx T
 by_cases hx0 : x < 0
 · have hx2 : sg x = true := sg_neg hx0
   have HX2 := Lib.hid hx2
   clear hx2
   rw [zT_neg hx0] at hS
   obtain ⟨D, hD⟩ : ∃ D, strOf (decT x.natAbs) = D := ⟨_, rfl⟩
   have ed : (⟨#[45]⟩ : ByteArray) ++ D = S := by rw [← hD, minus_text]; exact hS
   have hDl : D.size ≤ 100001 := by
    have := decT_len_limbs (lt_pow HN.out.nn)
    rw [← hD, size_strOf]; omega
   have HD := Lib.hid hD
   clear hD hS
   clear hx0
   go_enter Tryz.func37, Tryz.ntmps37
   go_wp2_with fail
   refine (digText_c (HT.out.below HW.out) HN.out.nn h1 _ HD.out).mono ?_
   rintro e w2 ⟨rfl, bn⟩
   replace HN := Lib.hid (HN.out.below bn)
   replace HW := Lib.hid (below_two HW.out bn)
   replace r0 := r0.below bn
   clear c00 c01 bn
   have c00 := r0.c0
   have c01 := r0.c1
   clear r0
   go_wp2_with fail
   refine (isBelow_c HN.out (by omega) true HX2.out).mono ?_
   rintro e w3 ⟨rfl, bn⟩
   replace HW := Lib.hid (below_two HW.out bn)
   clear c00 c01 bn
   go_wp2
   go_ret
   exact ⟨rfl, HW.out⟩
 · have hx2 : sg x = false := sg_pos (by omega)
   have HX2 := Lib.hid hx2
   clear hx2
   rw [zT_pos (by omega)] at hS
   have HD := Lib.hid hS
   clear hS
   clear hx0
   go_enter Tryz.func37, Tryz.ntmps37
   go_wp2_with fail
   refine (digText_c (HT.out.below HW.out) HN.out.nn h1 _ HD.out).mono ?_
   rintro e w2 ⟨rfl, bn⟩
   replace HN := Lib.hid (HN.out.below bn)
   replace HW := Lib.hid (below_two HW.out bn)
   replace r0 := r0.below bn
   clear c00 c01 bn
   have c00 := r0.c0
   have c01 := r0.c1
   clear r0
   go_wp2_with fail
   refine (isBelow_c HN.out (by omega) false HX2.out).mono ?_
   rintro e w3 ⟨rfl, bn⟩
   replace HW := Lib.hid (below_two HW.out bn)
   clear c00 c01 bn
   go_wp2
   go_ret
   exact ⟨rfl, HW.out⟩
end
end Go.Proofs.YtjikaojffgjndaaGreatDoor
