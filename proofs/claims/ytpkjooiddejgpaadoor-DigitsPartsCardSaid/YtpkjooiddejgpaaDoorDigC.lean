/- The library's slices.Backward over limbs, as a contract for a loop over it: its closure goes through the limbs from the last one to the first. Condition: what a round keeps (KpB): all blocks below a bound but one. -/
import Derived.Test.YtpkjooiddejgpaaDoorDigB
import Derived.RangeFuncNested
import Derived.RangeFuncBox
import Derived.RangeFuncBound
import Derived.RangeFuncCalls
import Derived.RangeFuncLeaves
import Derived.Shelf.Abstract
import Derived.Shelf.RegionOpen
import Derived.OwnWalkIn
import Derived.TacticsInMore
import Derived.LoopNIn
import Derived.LoopIn
namespace Go.Proofs.YtpkjooiddejgpaaDoor
open Go.RowKit Go.Shelf Limb
set_option linter.unusedVariables false
attribute [local go_sem] Oper.semAt_some

/-- All blocks below n but b lie as they lay. -/
def KpB (b n : Nat) (A B : World) : Prop := ∀ k, k < n → k ≠ b → B.heap[k]? = A.heap[k]?
theorem KpB.refl (b n : Nat) (A : World) : KpB b n A A := fun _ _ _ => rfl
theorem KpB.trans {b n : Nat} {A B C : World} (h : KpB b n A B) (k : KpB b n B C) : KpB b n A C := fun i h1 h2 => (k i h1 h2).trans (h i h1 h2)
theorem KpB.turn {b n : Nat} {w : World} (hn : n ≤ w.heap.size) (W : World) (l : Nat) (o o' : Obj) (hl : w.heap.size ≤ l) (h : W.heap[l]? = some o) (_ : o.isCells = false) (_ : o.isWalk = false) : KpB b n W (W.putObj l o') :=
  fun k h1 _ => World.putObj_heap_other (by omega)
theorem KpB.cell {b n : Nat} {A B : World} (h : KpB b n A B) {p : Addr} (h1 : p.block < n) (h2 : p.block ≠ b) : B.cell? p = A.cell? p := World.cell?_of_block (h p.block h1 h2)
theorem KpB.below {b n : Nat} {A B : World} (h : Below n A B) (hn : n ≤ A.heap.size) : KpB b n A B := fun k h1 _ => h.block k h1
theorem KpB.set {b n : Nat} {A B : World} (h : KpB b n A B) (v : Value) : KpB b n A (B.setCell ⟨b, 0, none⟩ v) := fun k h1 h2 => by
  rw [← h k h1 h2]
  simp only [World.setCell, Array.getElem?_modify]
  rw [if_neg (fun e => h2 e.symm)]

/-- A group of nine digits, and where it stands. -/
abbrev Grp := { p : Nat × Nat // p.2 < 1000000000 }
/-- The group at k. -/
def grpAt (gs : List Nat) (h : ∀ x ∈ gs, x < 1000000000) (k : Nat) : Grp := ⟨(k, lim gs k), by
  show lim gs k < 1000000000
  unfold lim
  rw [List.getD_eq_getElem?_getD]
  rcases Nat.lt_or_ge k gs.length with hk | hk
  · rw [List.getElem?_eq_getElem hk]; exact h _ (List.getElem_mem hk)
  · rw [List.getElem?_eq_none hk]; decide⟩
/-- What has come when k rounds are over: the last groups, the last first. -/
def downs (gs : List Nat) (h : ∀ x ∈ gs, x < 1000000000) (k : Nat) : List Grp := (List.range k).map fun j => grpAt gs h (gs.length - 1 - j)
theorem downs_succ (gs : List Nat) (h : ∀ x ∈ gs, x < 1000000000) (k : Nat) : downs gs h (k + 1) = downs gs h k ++ [grpAt gs h (gs.length - 1 - k)] := by simp [downs, List.range_succ]
theorem downs_len (gs : List Nat) (h : ∀ x ∈ gs, x < 1000000000) (k : Nat) : (downs gs h k).length = k := by simp [downs]
/-- The digits of groups, one behind the other. -/
def cat (l : List Grp) : List Nat := (l.map fun x => pad 9 x.1.2).flatten
theorem cat_snoc (l : List Grp) (x : Grp) : cat (l ++ [x]) = cat l ++ pad 9 x.1.2 := by simp [cat]
theorem cat_len (l : List Grp) : (cat l).length = 9 * l.length := by
  induction l with
  | nil => rfl
  | cons x r ih => simp only [cat, List.map_cons, List.flatten_cons, List.length_append, pad_len, List.length_cons] at ih ⊢; omega
theorem cat_dig (l : List Grp) : allDig (cat l) = true := by
  induction l with
  | nil => rfl
  | cons x r ih => simp only [cat, List.map_cons, List.flatten_cons] at ih ⊢; rw [allDig_append, pad_dig, ih]; rfl
theorem flat_drop (gs : List Nat) (h : ∀ x ∈ gs, x < 1000000000) : ∀ k, k ≤ gs.length → cat (downs gs h k) = flat (gs.drop (gs.length - k))
  | 0, _ => by rw [Nat.sub_zero, List.drop_length]; rfl
  | k + 1, hk => by
    rw [downs_succ, cat_snoc, flat_drop gs h k (by omega)]
    have e : gs.length - (k + 1) < gs.length := by omega
    rw [List.drop_eq_getElem_cons e, flat, show gs.length - (k + 1) + 1 = gs.length - k by omega]
    have e2 : (grpAt gs h (gs.length - 1 - k)).1.2 = gs[gs.length - (k + 1)] := by
      show lim gs _ = _
      rw [show gs.length - 1 - k = gs.length - (k + 1) by omega]
      simp [lim, List.getD_eq_getElem?_getD, List.getElem?_eq_getElem e]
    rw [e2]
theorem cat_downs (gs : List Nat) (h : ∀ x ∈ gs, x < 1000000000) : cat (downs gs h gs.length) = flat gs := by
  rw [flat_drop gs h gs.length (Nat.le_refl _), Nat.sub_self, List.drop_zero]

set_option maxRecDepth 100000 in
set_option maxHeartbeats 2000000 in
theorem back1_in (F : Fence) (n : Nat) (hF : F.fn 42) (hro : F.round = none) (hn : 1 ≤ n) (l Bs Bt n₀ cap : Nat) (A : Option Addr) (gs : List Nat) (hg : ∀ x ∈ gs, x < 1000000000) (hlen : gs.length ≤ 1000000000)
    (hBs : Bs < n₀) (hBst : Bs ≠ Bt) (J Jx : List Grp → World → Prop)
    (hY : ∀ pre x W, J pre W → pre.length < gs.length → YieldAt F (n - 1) Tryd.prog l #[.int .i64 (x.1.1 : Int), .int .u32 (x.1.2 : Int)] W fun e W' =>
      (e = .returned (.bool true) ∧ J (pre ++ [x]) W' ∧ KpB Bt n₀ W W') ∨ (e = .returned (.bool false) ∧ Jx (pre ++ [x]) W'))
    (W : World) (hcB : W.cell? ⟨Bs, 0, none⟩ = some (.slice A gs.length cap)) (hA : 0 < gs.length → ∃ b o, A = some ⟨b, o, none⟩ ∧ b < n₀ ∧ b ≠ Bt ∧ ∀ j, j < gs.length → W.cell? ⟨b, o + j, none⟩ = some (.int .u32 ((lim gs j : Nat) : Int))) (h0 : J [] W) :
    CallsIn F n Tryd.prog 42 #[.func (.yield l) #[] #[], .pointer (some ⟨Bs, 0, none⟩)] W fun e W' => (∃ v, e = .returned v) ∧
      ((∃ ys, ys = downs gs hg gs.length ∧ J ys W') ∨ (∃ pre, (∃ k, k ≤ gs.length ∧ pre = downs gs hg k) ∧ Jx pre W')) := by
  refine callsIn_of_wp Tryd.func42 rfl hF ?_ hro
  simp only [Tryd.ntmps42, List.size_toArray, List.length_cons, List.length_nil, Nat.reduceAdd, Nat.reduceSub, Array.replicate_succ, Array.replicate_zero, List.push_toArray, List.append_toArray, List.nil_append, List.cons_append]
  gi_wp2
  gi_loopw [3] (fun i wr => ∃ k : Nat, k ≤ gs.length ∧ i = .int .i64 ((gs.length : Int) - (k : Int) - 1) ∧ J (downs gs hg k) wr ∧ KpB Bt n₀ W wr)
    (fun i _ => (intOf i + 1).toNat)
  case atStart => exact ⟨0, Nat.zero_le _, by simp, h0, KpB.refl _ _ _⟩
  case round =>
    obtain ⟨k, hk, rfl, hJs, hnx⟩ := hrel
    by_cases hlt : k < gs.length
    · obtain ⟨p, hp⟩ : ∃ p, k + p + 1 = gs.length := ⟨gs.length - 1 - k, by omega⟩
      have ep : (gs.length : Int) - (k : Int) - 1 = (p : Int) := by omega
      obtain ⟨b, o, rfl, hb, hbt, hcs⟩ := hA (by omega)
      have hc1 : wr.cell? ⟨Bs, 0, none⟩ = some (.slice (some ⟨b, o, none⟩) gs.length cap) := (hnx.cell hBs hBst).trans hcB
      have hc2 : wr.cell? ⟨b, o + p, none⟩ = some (.int .u32 ((lim gs p : Nat) : Int)) := (hnx.cell (p := ⟨b, o + p, none⟩) hb hbt).trans (hcs p (by omega))
      obtain ⟨fn, tmps, assign, body, hy, hR⟩ := hY _ (grpAt gs hg (gs.length - 1 - k)) wr hJs (by rw [downs_len]; exact hlt)
      have e1 : ((grpAt gs hg (gs.length - 1 - k)).1.1 : Int) = (p : Int) := by show ((gs.length - 1 - k : Nat) : Int) = _; omega
      have e2 : ((grpAt gs hg (gs.length - 1 - k)).1.2 : Int) = ((lim gs p : Nat) : Int) := by show ((lim gs (gs.length - 1 - k) : Nat) : Int) = _; rw [show gs.length - 1 - k = p by omega]
      rw [e1, e2] at hy
      obtain ⟨d, hd⟩ : ∃ d, lim gs p = d := ⟨_, rfl⟩
      rw [hd] at hy hc2
      rw [ep]
      gi_wp2
      refine hR.mono ?_
      rintro e W3 (⟨rfl, hJ3, hk3⟩ | ⟨rfl, hJx3⟩)
      · gi_wp2
        go_roundw
        case rel => exact ⟨k + 1, by omega, by go_num, by rw [downs_succ]; exact hJ3, hnx.trans hk3⟩
        case measure => simp [intOf] <;> omega
      · gi_wp2
        refine bodyPost_ret (results_none rfl _ _ _) rfl ?_
        exact ⟨⟨_, rfl⟩, .inr ⟨_, ⟨k + 1, by omega, (downs_succ _ _ _).symm⟩, hJx3⟩⟩
    · obtain rfl : k = gs.length := by omega
      gi_wp2
      go_end0
      exact ⟨⟨_, rfl⟩, .inl ⟨_, rfl, hJs⟩⟩

/-- **slices.Backward(s)**: the slice is boxed; the function value captures the box. -/
theorem back_in (A : Option Addr) (len cap : Nat) (w : World) :
    Calls Tryd.prog 27 #[.slice A len cap] w fun e w' => e = .returned (.func (.func 42) #[] #[.pointer (some ⟨w.heap.size, 0, none⟩)]) ∧ w' = w.alloc (.cells #[.slice A len cap] 22) := by
  go_enter Tryd.func27, Tryd.ntmps27
  go_wp2
  go_ret
  exact ⟨rfl, rfl⟩

/-- Its closure over a row of limbs that lies below n₀, in another block than Bt. -/
theorem back_stops (F : Fence) (n : Nat) (hF : F.fn 42) (hro : F.round = none) (hn : 1 ≤ n) (Bs Bt n₀ cap : Nat) (A : Option Addr) (gs : List Nat) (hg : ∀ x ∈ gs, x < 1000000000) (hlen : gs.length ≤ 1000000000)
    (w : World) (hBs : Bs < n₀) (hBst : Bs ≠ Bt) (hn₀ : n₀ ≤ w.heap.size) (hcB : w.cell? ⟨Bs, 0, none⟩ = some (.slice A gs.length cap)) (hA : 0 < gs.length → ∃ b o, A = some ⟨b, o, none⟩ ∧ b < n₀ ∧ b ≠ Bt ∧ ∀ j, j < gs.length → w.cell? ⟨b, o + j, none⟩ = some (.int .u32 ((lim gs j : Nat) : Int))) :
    SeqStopsK F n Tryd.prog 42 #[.pointer (some ⟨Bs, 0, none⟩)] (fun x : Grp => #[Value.int .i64 (x.1.1 : Int), Value.int .u32 (x.1.2 : Int)]) (KpB Bt n₀) (fun ys => ys = downs gs hg gs.length)
      (fun pre => ∃ k, k ≤ gs.length ∧ pre = downs gs hg k) gs.length w := fun l J Jx W hW _ _ hY h0 => by
  refine back1_in F n hF hro hn l Bs Bt n₀ cap A gs hg hlen hBs hBst J Jx hY W ((hW.cell (p := ⟨Bs, 0, none⟩) (Nat.lt_of_lt_of_le hBs hn₀)).trans hcB) (fun h => ?_) h0
  obtain ⟨b, o, e, hb, hbt, hc⟩ := hA h
  exact ⟨b, o, e, hb, hbt, fun j hj => (hW.cell (p := ⟨b, o + j, none⟩) (Nat.lt_of_lt_of_le hb hn₀)).trans (hc j hj)⟩

end Go.Proofs.YtpkjooiddejgpaaDoor
