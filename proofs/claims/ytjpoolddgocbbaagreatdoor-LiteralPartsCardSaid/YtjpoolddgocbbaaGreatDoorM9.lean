/- Part 9 of the texts that the statements of this seat lean on: mathematics, and what functions answer, as contracts over memory; each part says its own conditions. -/
import Derived.Test.YtjpoolddgocbbaaGreatDoorM8
import Derived.RangeFuncNested
import Derived.RangeFuncBox
import Derived.RangeFuncBound
import Derived.RangeFuncCalls
import Derived.RangeFuncLeaves
import Derived.Shelf.Abstract
import Derived.Shelf.RegionOpen
import Derived.OwnWalkIn
import Derived.TacticsInMore
import Derived.LoopNIn
import Derived.LoopIn
import Derived.Test.YtjpoolddgocbbaaGreatDoorShelf
import Derived.Lib.IndexLaws
import Derived.BigQuiet
import Derived.Deep.QuietTactic
/- The library's slices.Backward over limbs, as a contract for a loop over it: its closure goes through the limbs from the last one to the first. Condition: what a round keeps (KpB): all blocks below a bound but one. -/
namespace Go.Proofs.YtjpoolddgocbbaaGreatDoor
open Go.RowKit Go.Shelf Limb
set_option linter.unusedVariables false
attribute [local go_sem] Oper.semAt_some

/-- All blocks below n but b lie as they lay. -/
def KpB (b n : Nat) (A B : World) : Prop := ∀ k, k < n → k ≠ b → B.heap[k]? = A.heap[k]?
theorem KpB.refl (b n : Nat) (A : World) : KpB b n A A := fun _ _ _ => rfl
theorem KpB.trans {b n : Nat} {A B C : World} (h : KpB b n A B) (k : KpB b n B C) : KpB b n A C := fun i h1 h2 => (k i h1 h2).trans (h i h1 h2)
theorem KpB.turn {b n : Nat} {w : World} (hn : n ≤ w.heap.size) (W : World) (l : Nat) (o o' : Obj) (hl : w.heap.size ≤ l) (h : W.heap[l]? = some o) (_ : o.isCells = false) (_ : o.isWalk = false) : KpB b n W (W.putObj l o') :=
  fun k h1 _ => World.putObj_heap_other (by omega)
theorem KpB.cell {b n : Nat} {A B : World} (h : KpB b n A B) {p : Addr} (h1 : p.block < n) (h2 : p.block ≠ b) : B.cell? p = A.cell? p := World.cell?_of_block (h p.block h1 h2)
theorem KpB.below {b n : Nat} {A B : World} (h : Below n A B) (hn : n ≤ A.heap.size) : KpB b n A B := fun k h1 _ => h.block k h1
theorem KpB.set {b n : Nat} {A B : World} (h : KpB b n A B) (v : Value) : KpB b n A (B.setCell ⟨b, 0, none⟩ v) := fun k h1 h2 => by
  rw [← h k h1 h2]
  simp only [World.setCell, Array.getElem?_modify]
  rw [if_neg (fun e => h2 e.symm)]

/-- A group of nine digits, and where it stands. -/
abbrev Grp := { p : Nat × Nat // p.2 < 1000000000 }
/-- The group at k. -/
def grpAt (gs : List Nat) (h : ∀ x ∈ gs, x < 1000000000) (k : Nat) : Grp := ⟨(k, lim gs k), by
  show lim gs k < 1000000000
  unfold lim
  rw [List.getD_eq_getElem?_getD]
  rcases Nat.lt_or_ge k gs.length with hk | hk
  · rw [List.getElem?_eq_getElem hk]; exact h _ (List.getElem_mem hk)
  · rw [List.getElem?_eq_none hk]; decide⟩
/-- What has come when k rounds are over: the last groups, the last first. -/
def downs (gs : List Nat) (h : ∀ x ∈ gs, x < 1000000000) (k : Nat) : List Grp := (List.range k).map fun j => grpAt gs h (gs.length - 1 - j)
theorem downs_succ (gs : List Nat) (h : ∀ x ∈ gs, x < 1000000000) (k : Nat) : downs gs h (k + 1) = downs gs h k ++ [grpAt gs h (gs.length - 1 - k)] := by simp [downs, List.range_succ]
theorem downs_len (gs : List Nat) (h : ∀ x ∈ gs, x < 1000000000) (k : Nat) : (downs gs h k).length = k := by simp [downs]
/-- The digits of groups, one behind the other. -/
def cat (l : List Grp) : List Nat := (l.map fun x => pad 9 x.1.2).flatten
theorem cat_snoc (l : List Grp) (x : Grp) : cat (l ++ [x]) = cat l ++ pad 9 x.1.2 := by simp [cat]
theorem cat_len (l : List Grp) : (cat l).length = 9 * l.length := by
  induction l with
  | nil => rfl
  | cons x r ih => simp only [cat, List.map_cons, List.flatten_cons, List.length_append, pad_len, List.length_cons] at ih ⊢; omega
theorem cat_dig (l : List Grp) : allDig (cat l) = true := by
  induction l with
  | nil => rfl
  | cons x r ih => simp only [cat, List.map_cons, List.flatten_cons] at ih ⊢; rw [allDig_append, pad_dig, ih]; rfl
theorem flat_drop (gs : List Nat) (h : ∀ x ∈ gs, x < 1000000000) : ∀ k, k ≤ gs.length → cat (downs gs h k) = flat (gs.drop (gs.length - k))
  | 0, _ => by rw [Nat.sub_zero, List.drop_length]; rfl
  | k + 1, hk => by
    rw [downs_succ, cat_snoc, flat_drop gs h k (by omega)]
    have e : gs.length - (k + 1) < gs.length := by omega
    rw [List.drop_eq_getElem_cons e, flat, show gs.length - (k + 1) + 1 = gs.length - k by omega]
    have e2 : (grpAt gs h (gs.length - 1 - k)).1.2 = gs[gs.length - (k + 1)] := by
      show lim gs _ = _
      rw [show gs.length - 1 - k = gs.length - (k + 1) by omega]
      simp [lim, List.getD_eq_getElem?_getD, List.getElem?_eq_getElem e]
    rw [e2]
theorem cat_downs (gs : List Nat) (h : ∀ x ∈ gs, x < 1000000000) : cat (downs gs h gs.length) = flat gs := by
  rw [flat_drop gs h gs.length (Nat.le_refl _), Nat.sub_self, List.drop_zero]

end Go.Proofs.YtjpoolddgocbbaaGreatDoor

/- What package digits' Text answers, as a contract over memory, where its table of powers of ten reads as it is laid: the decimal digits of any list of limbs. Condition: the table (Tab), at most 10000 limbs. -/
namespace Go.Proofs.YtjpoolddgocbbaaGreatDoor
open Go.RowKit Go.Shelf Limb
set_option linter.unusedVariables false
attribute [local go_sem] Oper.semAt_some

/-- What stands between two rounds: the text so far lies in a row of the call's own beyond n; its slice in the box at b. -/
def TextI (n b B : Nat) (w : World) (pre : List Grp) (W : World) : Prop :=
  ((∃ v, Boxed W b 66 v ∧ W.ownsRow n 5 1 v (cat pre).length ((cat pre).map byV) ∧ True) ∧ n ≤ W.heap.size) ∧ Below B w W

theorem ownFrom_size {β : Type} (B n : Nat) : OwnFrom B (fun (_ : β) W => n ≤ W.heap.size) := fun _ _ _ _ hs hg _ => Nat.le_trans hs hg.size

theorem isB_box {W : World} {A : Option Addr} {n b : Nat} {zs : List Nat} {t : TypeId} {A2 : Option Addr} {n2 c2 : Nat} (h : IsB W A n zs) (hb : Boxed W b t (.slice A2 n2 c2)) (u : Value) : IsB (W.setCell ⟨b, 0, none⟩ u) A n zs := by
  refine ⟨h.1, h.2.1, fun hn => ?_⟩
  obtain ⟨g, o, e, hlt, hc⟩ := h.2.2 hn
  have hne : b ≠ g := by
    rintro rfl
    have h1 := hc 0 hn
    unfold Boxed at hb
    simp only [World.cell?, hb] at h1
    rcases o with _ | o
    · simp at h1
    · simp at h1
  refine ⟨g, o, e, by simpa [World.setCell] using hlt, fun j hj => ?_⟩
  rw [World.cell?_setCell_other W ⟨b, 0, none⟩ ⟨g, o + j, none⟩ u (fun e => hne (by injection e))]
  exact hc j hj

end Go.Proofs.YtjpoolddgocbbaaGreatDoor

/- What package digits' Parse and Ten answer, as contracts over memory, where its table of powers of ten reads as it is laid. Condition: the table (Tab). -/
namespace Go.Proofs.YtjpoolddgocbbaaGreatDoor
open Go.RowKit Limb
set_option linter.unusedVariables false

theorem bytesOf_extract (s : ByteArray) (i j : Nat) : bytesOf (s.extract i j) = ((bytesOf s).drop i).take (j - i) := by
  unfold bytesOf
  rw [ByteArray.data_extract, Array.toList_extract, List.extract_eq_take_drop, List.map_take, List.map_drop]

/-- What the library's reader answers of at most nine bytes: a number, or none, with an error. -/
def Red (l : List Nat) (v : Nat) (e : Value) : Prop := (allDig l = true ∧ v = decV l ∧ e = .nilIface) ∨ (allDig l = false ∧ ∃ t p, e = .iface t p)

theorem readUint_yes (s : ByteArray) (w : World) (h0 : 1 ≤ s.size) (h9 : s.size ≤ 9) (h : allDig (bytesOf s) = true) (v : Nat) (hv : decV (bytesOf s) = v) :
    Calls Tryz.prog 47 #[.string s, .int .i64 10, .int .i64 32] w fun e w' => e = .returned (.tuple #[.int .u64 (v : Int), .nilIface]) ∧ Below w.heap.size w w' := by
  have hl : (s.data.toList : List UInt8) ≠ [] := by
    intro e
    have : s.size = 0 := by show s.data.size = 0; rw [← Array.length_toList, e]; rfl
    omega
  have hs : s.data.toList.length = s.size := Array.length_toList
  have hp := parseB_yes hl (by rw [hs]; exact h9) h
  refine (Any.strconv_ParseUint_10_at32_ok Tryz.laysPu14 s (by omega) (decV (bytesOf s)) hp w).mono ?_
  rintro e w' ⟨rfl, hW⟩
  rw [hv]
  refine ⟨rfl, ?_⟩
  rcases hW with rfl | rfl
  · exact Below.refl _ _
  · exact Lib.bytesWorld_below _ _ _

theorem readUint_no (s : ByteArray) (w : World) (T : Tab w) (h9 : s.size ≤ 9) (h : allDig (bytesOf s) = false) :
    Calls Tryz.prog 47 #[.string s, .int .i64 10, .int .i64 32] w fun e w' => ∃ t p, e = .returned (.tuple #[.int .u64 0, .iface t (.pointer (some p))]) ∧ Below w.heap.size w w' := by
  have hs : s.data.toList.length = s.size := Array.length_toList
  have hp := parseB_no (l := s.data.toList) (by rw [hs]; exact h9) h
  obtain ⟨te, pe, he⟩ := T.2
  refine (Any.strconv_ParseUint_10_at32_syntax Tryz.laysPu14 s (by omega) hp _ w he (.inr ⟨te, pe, rfl⟩)).mono ?_
  rintro e w' ⟨N, rfl, _, _, hb⟩
  exact ⟨_, _, rfl, hb⟩

theorem ten_limb {k : Nat} (h : k ≤ 9) : 10 ^ k < 4294967296 := Nat.lt_of_le_of_lt (Nat.pow_le_pow_right (by decide) h) (by decide)

theorem powV_tens {m : Nat} (h : m ≤ 222) : powV 1000000000 (m : Int) = some (1000000000 ^ m) := by
  refine powV_small ?_ fun k hk => ?_
  · exact blen_le (by exact Nat.lt_of_le_of_lt h (by decide))
  · rw [show (1000000000 : Nat) = 10 ^ 9 from rfl, ← Nat.pow_mul]
    exact dec_room_lt (by omega)

theorem powTens {w : World} {A : Option Addr} {n c : Nat} {xs : List Nat} {L : Nat} (hx : NN w A n c xs 1000000000 L) (h1 : L ≤ 10000000) {q : Nat} (hq : q ≤ 222) :
    Calls Tryz.prog 87 #[.slice A n c, .int .i64 (q : Int)] w fun e w' => ∃ A2 n2 c2, e = .returned (.tuple #[.slice A2 n2 c2, .bool true]) ∧ NN w' A2 n2 c2 (limbs (1000000000 ^ q)) (1000000000 ^ q) 256 ∧ Below w.heap.size w w' := by
  have := mulPow_c hx h1 (q : Int) (by omega) (by omega) _ (powV_tens hq)
  exact this

set_option maxHeartbeats 2000000 in
set_option maxRecDepth 4000 in
theorem digTen_yes (n : Nat) (V : Int) (hV : V = n) (h1 : n ≤ 2000) (w : World) (T : Tab w) :
    Calls Tryz.prog 52 #[.int .i64 V] w fun e w' => ∃ A1 n1 c1, e = .returned (.tuple #[.slice A1 n1 c1, .bool true]) ∧ NN w' A1 n1 c1 (limbs (10 ^ n)) (10 ^ n) 223 ∧ Below w.heap.size w w' := by
  subst hV
  obtain ⟨q, hq⟩ : ∃ q, q = n / 9 := ⟨_, rfl⟩
  obtain ⟨r, hr⟩ : ∃ r, r = n % 9 := ⟨_, rfl⟩
  have eq1 : (n : Int) / 9 = (q : Int) := by omega
  have er1 : (n : Int) % 9 = (r : Int) := by omega
  have hq2 : q ≤ 222 := by omega
  have hr2 : r < 9 := by omega
  have HE : RowKit.Hid (1000000000 ^ q * 10 ^ r = 10 ^ n) := by
    show _ = _
    rw [show (1000000000 : Nat) = 10 ^ 9 from rfl, ← Nat.pow_mul, ← Nat.pow_add]
    congr 1
    omega
  have HL : RowKit.Hid (10 ^ n < 4294967296 ^ 223) := dec_room_lt (by omega)
  have hc9 : w.cell? ⟨0, 9, none⟩ = some (.int .u32 1000000000) := T.1 9 (by decide)
  have HT := Lib.hid T
  clear T hq hr
  go_enter Tryz.func52, Tryz.ntmps52
  go_wp2_with fail
  refine (of_c 1000000000 _ rfl (by decide) w).mono ?_
  rintro e w1 ⟨A1, n1, c1, rfl, ha, bn⟩
  have HA := Lib.hid ha
  have HW := Lib.hid bn
  clear hc9 ha bn
  go_wp2_with fail
  refine (powTens HA.out (by decide) hq2).mono ?_
  rintro e w2 ⟨A2, n2, c2, rfl, hb, bn⟩
  have HB := Lib.hid hb
  have HW2 := Lib.hid (below_two HW.out bn)
  have hcr := (HT.out.below HW2.out).1 r (by omega)
  obtain ⟨p, hp⟩ : ∃ p, p = 10 ^ r := ⟨_, rfl⟩
  have hpl : p < 4294967296 := by rw [hp]; exact ten_limb (by omega)
  rw [← hp] at hcr
  have HP := Lib.hid hp
  clear hb bn hp HA HW
  go_wp2_with fail
  refine (mulSmall_c HB.out p _ rfl hpl (by decide)).mono ?_
  rintro e w3 ⟨A3, n3, c3, rfl, hm, bn⟩
  have HM : RowKit.Hid (NN w3 A3 n3 c3 (limbs (10 ^ n)) (10 ^ n) 223) := by
    show NN _ _ _ _ _ _ _
    rw [HP.out, HE.out] at hm
    exact hm.relax HL.out
  have HW3 := Lib.hid (below_two HW2.out bn)
  clear hm bn HB HW2 hcr
  go_wp2
  go_ret2
  exact ⟨A3, n3, c3, rfl, HM.out, HW3.out⟩

theorem digTen_no (V : Int) (h1 : V < 0 ∨ 2000 < V) (h2 : -9223372036854775808 ≤ V) (h3 : V ≤ 9223372036854775807) (w : World) :
    Calls Tryz.prog 52 #[.int .i64 V] w fun e w' => ∃ A1 c1, e = .returned (.tuple #[.slice A1 0 c1, .bool false]) ∧ Below w.heap.size w w' := by
  rcases h1 with h | h
  · go_enter Tryz.func52, Tryz.ntmps52
    go_wp2
    go_ret2
    exact ⟨none, 0, rfl, Below.refl _ _⟩
  · go_enter Tryz.func52, Tryz.ntmps52
    have h0 : 0 ≤ V := by omega
    go_wp2
    go_ret2
    exact ⟨none, 0, rfl, Below.refl _ _⟩

/-- How long a text is. -/
def strLen (v : Value) : Nat := match v with
  | .string s => s.size
  | _ => 0

theorem numOk_part {l : List Nat} {i k : Nat} (h : allDig ((l.drop i).take k) = false) : numOk l = false := by
  have h2 : allDig l = false := by
    rw [Bool.eq_false_iff]
    intro h3
    have h4 : allDig ((l.drop i).take k) = true := allDig_iff.2 fun x hx => allDig_iff.1 h3 x (List.mem_of_mem_drop (List.mem_of_mem_take hx))
    rw [h] at h4; cases h4
  unfold numOk
  rw [h2]; simp

set_option maxHeartbeats 4000000 in
set_option maxRecDepth 4000 in
theorem digParse_c (s : ByteArray) (w : World) (T : Tab w) (v : Bool) (hv : numOk (bytesOf s) = v) (m : Nat) (hm : numV (bytesOf s) = m) :
    Calls Tryz.prog 22 #[.string s] w fun e w' => ∃ A1 n1 c1, e = .returned (.tuple #[.slice A1 n1 c1, .bool v]) ∧ NN w' A1 n1 c1 (limbs m) m 223 ∧ Below w.heap.size w w' := by
  have HT := Lib.hid T
  have HV := Lib.hid hv
  have HM := Lib.hid hm
  have hl := length_bytesOf s
  have HL := Lib.hid hl
  clear T hv hm hl
  by_cases h0 : s.size = 0 ∨ 2000 < s.size
  · have hno : numOk (bytesOf s) = false := numOk_len (by rw [HL.out]; exact h0)
    have hr : RowKit.Hid (v = false ∧ limbs m = [] ∧ m = 0) := by
      have h3 : m = 0 := by rw [← HM.out]; exact numV_no hno
      exact ⟨by rw [← HV.out, hno], by rw [h3]; exact limbs_zero, h3⟩
    clear hno
    rcases h0 with h0 | h0
    · have h00 : ((s.size : Int) == 0) = true := by rw [beq_iff_eq]; omega
      go_enter Tryz.func22, Tryz.ntmps22
      go_wp2
      go_ret2
      obtain ⟨rfl, h4, h5⟩ := hr.out
      exact ⟨none, 0, 0, rfl, by rw [h4, h5]; exact ⟨IsN.nil _ _, rfl, Nat.le_refl _, Nat.zero_le _⟩, Below.refl _ _⟩
    · have h00 : ((s.size : Int) == 0) = false := by rw [beq_eq_false_iff_ne]; omega
      have h01 : (2000 : Int) < (s.size : Int) := by omega
      go_enter Tryz.func22, Tryz.ntmps22
      go_wp2
      go_ret2
      obtain ⟨rfl, h4, h5⟩ := hr.out
      exact ⟨none, 0, 0, rfl, by rw [h4, h5]; exact ⟨IsN.nil _ _, rfl, Nat.le_refl _, Nat.zero_le _⟩, Below.refl _ _⟩
  · have h1 : 1 ≤ s.size := by omega
    have h2 : s.size ≤ 2000 := by omega
    have h00 : ((s.size : Int) == 0) = false := by rw [beq_eq_false_iff_ne]; omega
    have h01 : (s.size : Int) ≤ 2000 := by omega
    have HP := Lib.hid (PInv.start (bytesOf s))
    clear h0
    go_enter Tryz.func22, Tryz.ntmps22
    have HN : RowKit.Hid (NN w none 0 0 (limbs 0) 0 223) := ⟨by rw [limbs_zero]; exact IsN.nil _ _, by rw [limbs_zero]; rfl, Nat.le_refl _, Nat.zero_le _⟩
    have HW := Lib.hid (Below.refl w.heap.size w)
    go_wp2
    go_loopw [0, 4] (fun sv ov wr => ∃ (i t : Nat) (S : ByteArray) (A1 : Option Addr) (n1 c1 : Nat), sv = .string S ∧ ov = .slice A1 n1 c1 ∧ RowKit.Hid (bytesOf S = (bytesOf s).drop i ∧ S.size + i = s.size) ∧ RowKit.Hid (PInv (bytesOf s) i t) ∧ RowKit.Hid (NN wr A1 n1 c1 (limbs t) t 223) ∧ RowKit.Hid (Below w.heap.size w wr)) (fun sv _ _ => strLen sv)
    case atStart => exact ⟨0, 0, s, none, 0, 0, rfl, rfl, ⟨rfl, rfl⟩, HP, HN, HW⟩
    case round =>
      clear HP HN HW
      obtain ⟨i, t, S, A1, n1, c1, rfl, rfl, HS, HP, HN, HW⟩ := hrel
      by_cases hS : S.size = 0
      · have hS0 : ¬ (0 : Int) < (S.size : Int) := by omega
        have hi : i = (bytesOf s).length := by rw [HL.out]; have := HS.out.2; omega
        have hp := HP.out
        unfold PInv at hp
        rw [hi, List.take_length] at hp
        have hok : numOk (bytesOf s) = true := numOk_good (by rw [HL.out]; exact h1) (by rw [HL.out]; exact h2) hp.1
        have hr : RowKit.Hid (v = true ∧ t = m) := ⟨by rw [← HV.out, hok], by rw [hp.2, ← HM.out, numV_yes hok]⟩
        clear hi hp hok
        go_wp2
        go_ret2
        obtain ⟨rfl, rfl⟩ := hr.out
        exact ⟨_, _, _, rfl, HN.out, HW.out⟩
      · have hS0 : (0 : Int) < (S.size : Int) := by omega
        obtain ⟨k, hk⟩ : ∃ k, k = min S.size 9 := ⟨_, rfl⟩
        have ek : min (S.size : Int) 9 = (k : Int) := by omega
        have hk1 : 1 ≤ k := by omega
        have hk9 : k ≤ 9 := by omega
        have hkS : k ≤ S.size := by omega
        obtain ⟨G, hG⟩ : ∃ G, S.extract 0 k = G := ⟨_, rfl⟩
        have hb : bytesOf G = ((bytesOf s).drop i).take k := by rw [← hG, bytesOf_extract, HS.out.1]; rfl
        have hGs : G.size = k := by
          rw [← length_bytesOf, hb, List.length_take, List.length_drop, HL.out]
          have := HS.out.2
          omega
        have HG := Lib.hid hb
        clear hb hk
        by_cases hd : allDig (bytesOf G) = true
        · obtain ⟨d, hdv⟩ : ∃ d, decV (bytesOf G) = d := ⟨_, rfl⟩
          have HC := Lib.hid (readUint_yes G wr (by omega) (by omega) hd d hdv)
          have hst := Limb.PInv.group HP.out (m := k) (by rw [HL.out]; have := HS.out.2; omega) (by rw [← HG.out]; exact hd)
          rw [← HG.out, hdv] at hst
          have hlt := hst.lt (by rw [HL.out]; exact h2)
          have hdl : d < 1000000000 := by
            rw [← hdv]
            have h3 := decV_lt hd
            rw [length_bytesOf, hGs] at h3
            exact Nat.lt_of_lt_of_le h3 (Nat.pow_le_pow_right (by decide) hk9)
          obtain ⟨p, hp⟩ : ∃ p, p = 10 ^ k := ⟨_, rfl⟩
          have hpl : p < 4294967296 := by rw [hp]; exact ten_limb hk9
          rw [← hp] at hst hlt
          have Hp := Lib.hid hp
          have HT2 := Lib.hid hst
          have Hlt := Lib.hid hlt
          obtain ⟨S2, hS2⟩ : ∃ S2, S.extract k S.size = S2 := ⟨_, rfl⟩
          have HS2 : RowKit.Hid (bytesOf S2 = (bytesOf s).drop (i + k) ∧ S2.size + (i + k) = s.size) := by
            have h3 : bytesOf S2 = (bytesOf s).drop (i + k) := by
              rw [← hS2, bytesOf_extract, HS.out.1, List.drop_drop]
              refine List.take_of_length_le ?_
              rw [List.length_drop, HL.out]
              have := HS.out.2
              omega
            refine ⟨h3, ?_⟩
            rw [← length_bytesOf, h3, List.length_drop, HL.out]
            have := HS.out.2
            omega
          have hS2l : S2.size < S.size := by have h3 := HS2.out.2; have h4 := HS.out.2; omega
          have HS2l := Lib.hid hS2l
          clear hd hdv hst hlt hp hS2l
          go_wp2_with fail
          refine HC.out.mono ?_
          rintro e w2 ⟨rfl, bn⟩
          have HN2 := Lib.hid (HN.out.below bn)
          have HW2 := Lib.hid (below_two HW.out bn)
          have hcell : w2.cell? ⟨0, k, none⟩ = some (.int .u32 (p : Int)) := by rw [Hp.out]; exact (HT.out.below HW2.out).1 k (by omega)
          clear bn HC HN HW
          go_wp2_with fail
          refine (mulSmall_c HN2.out p _ rfl hpl (by decide)).mono ?_
          rintro e w3 ⟨A3, n3, c3, rfl, hm, bn⟩
          have HM3 := Lib.hid hm
          have HW3 := Lib.hid (below_two HW2.out bn)
          clear hm bn HN2 HW2 hcell
          go_wp2_with fail
          refine (of_c d _ rfl (by omega) w3).mono ?_
          rintro e w4 ⟨A4, n4, c4, rfl, ho, bn⟩
          have HM4 := Lib.hid (HM3.out.below bn)
          have HO4 := Lib.hid ho
          have HW4 := Lib.hid (below_two HW3.out bn)
          clear ho bn HM3 HW3
          go_wp2_with fail
          refine (add_c HM4.out HO4.out 225 (by decide) (by decide) (by decide)).mono ?_
          rintro e w5 ⟨A5, n5, c5, rfl, hs, bn⟩
          have HN5 := Lib.hid (hs.relax Hlt.out)
          have HW5 := Lib.hid (below_two HW4.out bn)
          clear hs bn HM4 HO4 HW4
          go_wp2
          go_roundw
          case rel => exact ⟨i + k, t * p + d, S2, A5, n5, c5, rfl, rfl, HS2, HT2, HN5, HW5⟩
          case measure => exact HS2l.out
        · have hd2 : allDig (bytesOf G) = false := by simpa using hd
          have hno : numOk (bytesOf s) = false := numOk_part (by rw [← HG.out]; exact hd2)
          have hr : RowKit.Hid (v = false ∧ limbs m = [] ∧ m = 0) := by
            have h3 : m = 0 := by rw [← HM.out]; exact numV_no hno
            exact ⟨by rw [← HV.out, hno], by rw [h3]; exact limbs_zero, h3⟩
          have HC := Lib.hid (readUint_no G wr (HT.out.below HW.out) (by omega) hd2)
          clear hno hd hd2
          go_wp2_with fail
          refine HC.out.mono ?_
          rintro e w2 ⟨tt, p, rfl, bn⟩
          have HW2 := Lib.hid (below_two HW.out bn)
          clear bn HC
          go_wp2
          go_ret2
          obtain ⟨rfl, h4, h5⟩ := hr.out
          exact ⟨none, 0, 0, rfl, by rw [h4, h5]; exact ⟨IsN.nil _ _, rfl, Nat.le_refl _, Nat.zero_le _⟩, HW2.out⟩

end Go.Proofs.YtjpoolddgocbbaaGreatDoor

/- What package literal's kindAt, digitsLength, placesLength, exponentLength, Length and Good answer, as contracts over memory. Conditions: texts that can be read; the table of kinds reads as it is laid. -/
namespace Go.Proofs.YtjpoolddgocbbaaGreatDoor
open Go.RowKit Limb
set_option linter.unusedVariables false

theorem kindN_big {c : Nat} (h : 102 ≤ c) : kindN c = 0 := by
  unfold kindN
  rw [if_neg (by omega), if_neg (by omega), if_neg (by omega), if_neg]
  simp [isDig]; omega
theorem kindN_dig {c : Nat} : (kindN c = 1) ↔ isDig c = true := by
  unfold kindN
  by_cases h1 : c = 45
  · subst h1; decide
  · by_cases h2 : c = 46
    · subst h2; decide
    · by_cases h3 : c = 101
      · subst h3; decide
      · rw [if_neg h1, if_neg h2, if_neg h3]
        cases isDig c <;> decide
theorem kindN_point {c : Nat} : (kindN c = 2) ↔ c = 46 := by
  unfold kindN
  by_cases h1 : c = 45
  · subst h1; decide
  · by_cases h2 : c = 46
    · subst h2; decide
    · by_cases h3 : c = 101
      · subst h3; decide
      · rw [if_neg h1, if_neg h2, if_neg h3]
        cases isDig c <;> simp [h2]
theorem kindN_mark {c : Nat} : (kindN c = 3) ↔ c = 101 := by
  unfold kindN
  by_cases h1 : c = 45
  · subst h1; decide
  · by_cases h2 : c = 46
    · subst h2; decide
    · by_cases h3 : c = 101
      · subst h3; decide
      · rw [if_neg h1, if_neg h2, if_neg h3]
        cases isDig c <;> simp [h3]
theorem kindN_minus {c : Nat} : (kindN c = 4) ↔ c = 45 := by
  unfold kindN
  by_cases h1 : c = 45
  · subst h1; decide
  · by_cases h2 : c = 46
    · subst h2; decide
    · by_cases h3 : c = 101
      · subst h3; decide
      · rw [if_neg h1, if_neg h2, if_neg h3]
        cases isDig c <;> simp [h1]

set_option maxHeartbeats 1000000 in
theorem kindAt_c (s : ByteArray) (hs : s.size ≤ 9223372036854775807) (i : Nat) (V : Int) (hV : V = i) (w : World) (T : LTab w) (v : Nat) (hv : kindN (lim (bytesOf s) i) = v) :
    Calls Tryz.prog 61 #[.string s, .int .i64 V] w fun e w' => e = .returned (.int .u8 (v : Int)) ∧ w = w' := by
  subst hV
  by_cases hlt : i < s.size
  · obtain ⟨d, hd⟩ : ∃ d, (s[i]'hlt).toNat = d := ⟨_, rfl⟩
    have hdl : lim (bytesOf s) i = d := by rw [← Limb.byte_at s i hlt, hd]
    have hd2 : d < 256 := by rw [← hd]; exact UInt8.toNat_lt _
    rw [hdl] at hv
    by_cases h1 : d < 102
    · have hc := T.2 d h1
      rw [hv] at hc
      clear hv hdl T
      go_enter Tryz.func61, Tryz.ntmps61
      go_wp2
      go_ret
      exact ⟨rfl, rfl⟩
    · have h2 : 102 ≤ d := by omega
      rw [kindN_big h2] at hv
      subst hv
      clear hdl T h1
      go_enter Tryz.func61, Tryz.ntmps61
      go_wp2
      go_ret
      exact ⟨rfl, rfl⟩
  · have h2 : s.size ≤ i := by omega
    have h0 : lim (bytesOf s) i = 0 := lim_past (by rw [length_bytesOf]; exact h2)
    rw [h0] at hv
    obtain rfl : v = 0 := by rw [← hv]; rfl
    clear hv h0 T hlt
    go_enter Tryz.func61, Tryz.ntmps61
    go_wp2
    go_ret
    exact ⟨rfl, rfl⟩

theorem lim_dig {l : List Nat} {k : Nat} (h : isDig (lim l k) = true) : k < l.length := by
  rcases Nat.lt_or_ge k l.length with h2 | h2
  · exact h2
  · rw [lim_past h2] at h; exact absurd h (by decide)

set_option maxHeartbeats 1000000 in
theorem digitsLen_c (s : ByteArray) (hs : s.size ≤ 9223372036854775807) (m : Nat) (V : Int) (hV : V = m) (hm : m ≤ 9223372036854775807) (w : World) (T : LTab w) (n : Nat) (hn : min (litRun (bytesOf s)) m = n) :
    Calls Tryz.prog 30 #[.string s, .int .i64 V] w fun e w' => e = .returned (.int .i64 (n : Int)) ∧ w = w' := by
  subst hV
  have HT := Lib.hid T
  have Hn := Lib.hid hn
  clear T hn
  go_enter Tryz.func30, Tryz.ntmps30
  go_wp2
  go_loopw [5] (fun i wr => ∃ k : Nat, i = .int .i64 (k : Int) ∧ k ≤ m ∧ RowKit.Hid (k ≤ litRun (bytesOf s)) ∧ w = wr) (fun i _ => m - (intOf i).toNat)
  case atStart => exact ⟨0, rfl, Nat.zero_le _, Nat.zero_le _, rfl⟩
  case round =>
    obtain ⟨k, rfl, hk, HK, rfl⟩ := hrel
    by_cases hlt : k < m
    · cases hd : isDig (lim (bytesOf s) k) with
      | true =>
        have HK2 : RowKit.Hid (k + 1 ≤ litRun (bytesOf s)) := run_step HK.out (lim_dig hd) hd
        have HC := Lib.hid (kindAt_c s hs k k rfl w HT.out 1 (kindN_dig.2 hd))
        clear hd HK
        go_wp2_with fail
        refine HC.out.mono ?_
        rintro e w1 ⟨rfl, rfl⟩
        go_wp2
        go_roundw
        case rel => exact ⟨k + 1, by go_num, by omega, HK2, by first | rfl | trivial⟩
        case measure => simp [intOf]; omega
      | false =>
        have HE : RowKit.Hid (n = k) := by
          show _ = _
          rw [← Hn.out, run_stop HK.out hd]
          omega
        obtain ⟨v, hv⟩ : ∃ v, kindN (lim (bytesOf s) k) = v := ⟨_, rfl⟩
        have hv1 : ((v : Int) == 1) = false := by
          rw [beq_eq_false_iff_ne]
          intro h
          have h2 : v = 1 := by omega
          rw [h2] at hv
          rw [kindN_dig.1 hv] at hd; cases hd
        have HC := Lib.hid (kindAt_c s hs k k rfl w HT.out v hv)
        clear hd HK hv
        go_wp2_with fail
        refine HC.out.mono ?_
        rintro e w1 ⟨rfl, rfl⟩
        go_wp2
        go_ret
        exact ⟨by rw [HE.out]; rfl, rfl⟩
    · have HE : RowKit.Hid (n = m) := by
        show _ = _
        have := HK.out
        rw [← Hn.out]; omega
      obtain rfl : k = m := by omega
      clear HK hlt
      go_wp2
      go_ret
      exact ⟨by rw [HE.out]; rfl, rfl⟩

/-- What stands behind a text's first bytes. -/
theorem tail_of (s : ByteArray) (k : Nat) : bytesOf (s.extract k s.size) = (bytesOf s).drop k := by
  rw [bytesOf_extract]
  refine List.take_of_length_le ?_
  rw [List.length_drop, length_bytesOf]
  exact Nat.le_refl _
theorem tail_size (s : ByteArray) {k : Nat} (h : k ≤ s.size) : (s.extract k s.size).size = s.size - k := by
  rw [← length_bytesOf, tail_of, List.length_drop, length_bytesOf]
theorem ne_kind {v c : Nat} (h : v ≠ c) : ((v : Int) == (c : Int)) = false := by rw [beq_eq_false_iff_ne]; omega
theorem size_of_lim {s : ByteArray} {k v : Nat} (h : lim (bytesOf s) k = v) (hv : v ≠ 0) : k < s.size := by
  rcases Nat.lt_or_ge k s.size with h2 | h2
  · exact h2
  · rw [lim_past (by rw [length_bytesOf]; exact h2)] at h; exact absurd h.symm hv

set_option maxHeartbeats 1000000 in
theorem placesLen_c (s : ByteArray) (hs : s.size ≤ 9223372036854775807) (w : World) (T : LTab w) (n : Nat) (hn : litPoint (bytesOf s) = n) :
    Calls Tryz.prog 31 #[.string s] w fun e w' => e = .returned (.int .i64 (n : Int)) ∧ w = w' := by
  by_cases h : lim (bytesOf s) 0 = 46
  · have h1 : 1 ≤ s.size := size_of_lim h (by decide)
    obtain ⟨S, hS⟩ : ∃ S, s.extract 1 s.size = S := ⟨_, rfl⟩
    have hb : bytesOf S = (bytesOf s).drop 1 := by rw [← hS]; exact tail_of s 1
    have hz : S.size = s.size - 1 := by rw [← hS]; exact tail_size s h1
    have HK := Lib.hid (kindAt_c s hs 0 0 rfl w T 2 (kindN_point.2 h))
    obtain ⟨k, hk⟩ : ∃ k, litRun (bytesOf S) = k := ⟨_, rfl⟩
    have hkl : k ≤ S.size := by have := litRun_le (bytesOf S); rw [hk, length_bytesOf] at this; exact this
    have HC := Lib.hid (digitsLen_c S (by omega) s.size _ rfl hs w T k (by rw [hk]; omega))
    by_cases k0 : k = 0
    · obtain rfl : n = 0 := by rw [← hn]; unfold litPoint; rw [← hb, hk]; exact if_neg fun h2 => h2.2 k0
      subst k0
      clear hn hb hk h
      go_enter Tryz.func31, Tryz.ntmps31
      go_wp2_with fail
      refine HK.out.mono ?_
      rintro e w1 ⟨rfl, rfl⟩
      go_wp2_with fail
      refine HC.out.mono ?_
      rintro e w1 ⟨rfl, rfl⟩
      go_wp2
      go_ret
      exact ⟨rfl, rfl⟩
    · obtain rfl : n = 1 + k := by rw [← hn]; unfold litPoint; rw [← hb, hk]; exact if_pos ⟨h, k0⟩
      have k1 : ((k : Int) == 0) = false := ne_kind k0
      clear hn hb hk h
      go_enter Tryz.func31, Tryz.ntmps31
      go_wp2_with fail
      refine HK.out.mono ?_
      rintro e w1 ⟨rfl, rfl⟩
      go_wp2_with fail
      refine HC.out.mono ?_
      rintro e w1 ⟨rfl, rfl⟩
      go_wp2
      go_ret
      exact ⟨congrArg (fun v => Ending.returned (Value.int IntKind.i64 v)) (by omega), rfl⟩
  · obtain ⟨v, hv⟩ : ∃ v, kindN (lim (bytesOf s) 0) = v := ⟨_, rfl⟩
    have hv1 : ((v : Int) == 2) = false := ne_kind (c := 2) fun h2 => h (kindN_point.1 (hv.trans h2))
    have HK := Lib.hid (kindAt_c s hs 0 0 rfl w T v hv)
    obtain rfl : n = 0 := by rw [← hn]; exact litPoint_none h
    clear hn hv h
    go_enter Tryz.func31, Tryz.ntmps31
    go_wp2_with fail
    refine HK.out.mono ?_
    rintro e w1 ⟨rfl, rfl⟩
    go_wp2
    go_ret
    exact ⟨rfl, rfl⟩

set_option maxHeartbeats 1000000 in
theorem exponentLen_c (s : ByteArray) (hs : s.size ≤ 9223372036854775807) (w : World) (T : LTab w) (n : Nat) (hn : litExp (bytesOf s) = n) :
    Calls Tryz.prog 32 #[.string s] w fun e w' => e = .returned (.int .i64 (n : Int)) ∧ w = w' := by
  by_cases h : lim (bytesOf s) 0 = 101
  · have h1 : 1 ≤ s.size := size_of_lim h (by decide)
    have HK := Lib.hid (kindAt_c s hs 0 0 rfl w T 3 (kindN_mark.2 h))
    have ha : ∃ a, litAt (bytesOf s) = a ∧ ((lim (bytesOf s) 1 = 45 ∧ a = 2) ∨ (lim (bytesOf s) 1 ≠ 45 ∧ a = 1)) := by
      by_cases h45 : lim (bytesOf s) 1 = 45
      · exact ⟨2, if_pos h45, .inl ⟨h45, rfl⟩⟩
      · exact ⟨1, if_neg h45, .inr ⟨h45, rfl⟩⟩
    obtain ⟨a, ha, hab⟩ := ha
    have has : a ≤ s.size := by
      rcases hab with ⟨h2, rfl⟩ | ⟨_, rfl⟩
      · exact size_of_lim h2 (by decide)
      · exact h1
    obtain ⟨S, hS⟩ : ∃ S, s.extract a s.size = S := ⟨_, rfl⟩
    have hb : bytesOf S = (bytesOf s).drop a := by rw [← hS]; exact tail_of s a
    have hz : S.size = s.size - a := by rw [← hS]; exact tail_size s has
    obtain ⟨k, hk⟩ : ∃ k, min (litRun (bytesOf S)) 3 = k := ⟨_, rfl⟩
    have hk3 : k ≤ 3 := by omega
    have HC := Lib.hid (digitsLen_c S (by omega) 3 3 rfl (by decide) w T k hk)
    have HE : RowKit.Hid (n = if k = 0 then 0 else a + k) := by
      show _ = _
      rw [← hn, ← hk]
      unfold litExp
      rw [ha, ← hb]
      by_cases k0 : litRun (bytesOf S) = 0
      · rw [if_neg (fun h2 => h2.2 k0), if_pos (by omega)]
      · rw [if_pos ⟨h, k0⟩, if_neg (by omega)]
    clear hn hb hk h ha hz
    rcases hab with ⟨h45, rfl⟩ | ⟨h45, rfl⟩
    · have HM := Lib.hid (kindAt_c s hs 1 1 rfl w T 4 (kindN_minus.2 h45))
      clear h45
      by_cases k0 : k = 0
      · subst k0
        obtain rfl : n = 0 := HE.out
        go_enter Tryz.func32, Tryz.ntmps32
        go_wp2_with fail
        refine HK.out.mono ?_
        rintro e w1 ⟨rfl, rfl⟩
        go_wp2_with fail
        refine HM.out.mono ?_
        rintro e w1 ⟨rfl, rfl⟩
        go_wp2_with fail
        refine HC.out.mono ?_
        rintro e w1 ⟨rfl, rfl⟩
        go_wp2
        go_ret
        exact ⟨rfl, rfl⟩
      · obtain rfl : n = 2 + k := HE.out.trans (if_neg k0)
        have k1 : ((k : Int) == 0) = false := ne_kind k0
        go_enter Tryz.func32, Tryz.ntmps32
        go_wp2_with fail
        refine HK.out.mono ?_
        rintro e w1 ⟨rfl, rfl⟩
        go_wp2_with fail
        refine HM.out.mono ?_
        rintro e w1 ⟨rfl, rfl⟩
        go_wp2_with fail
        refine HC.out.mono ?_
        rintro e w1 ⟨rfl, rfl⟩
        go_wp2
        go_ret
        exact ⟨congrArg (fun v => Ending.returned (Value.int IntKind.i64 v)) (by omega), rfl⟩
    · obtain ⟨v, hv⟩ : ∃ v, kindN (lim (bytesOf s) 1) = v := ⟨_, rfl⟩
      have hv1 : ((v : Int) == 4) = false := ne_kind (c := 4) fun h2 => h45 (kindN_minus.1 (hv.trans h2))
      have HM := Lib.hid (kindAt_c s hs 1 1 rfl w T v hv)
      clear h45 hv
      by_cases k0 : k = 0
      · subst k0
        obtain rfl : n = 0 := HE.out
        go_enter Tryz.func32, Tryz.ntmps32
        go_wp2_with fail
        refine HK.out.mono ?_
        rintro e w1 ⟨rfl, rfl⟩
        go_wp2_with fail
        refine HM.out.mono ?_
        rintro e w1 ⟨rfl, rfl⟩
        go_wp2_with fail
        refine HC.out.mono ?_
        rintro e w1 ⟨rfl, rfl⟩
        go_wp2
        go_ret
        exact ⟨rfl, rfl⟩
      · obtain rfl : n = 1 + k := HE.out.trans (if_neg k0)
        have k1 : ((k : Int) == 0) = false := ne_kind k0
        go_enter Tryz.func32, Tryz.ntmps32
        go_wp2_with fail
        refine HK.out.mono ?_
        rintro e w1 ⟨rfl, rfl⟩
        go_wp2_with fail
        refine HM.out.mono ?_
        rintro e w1 ⟨rfl, rfl⟩
        go_wp2_with fail
        refine HC.out.mono ?_
        rintro e w1 ⟨rfl, rfl⟩
        go_wp2
        go_ret
        exact ⟨congrArg (fun v => Ending.returned (Value.int IntKind.i64 v)) (by omega), rfl⟩
  · obtain ⟨v, hv⟩ : ∃ v, kindN (lim (bytesOf s) 0) = v := ⟨_, rfl⟩
    have hv1 : ((v : Int) == 3) = false := ne_kind (c := 3) fun h2 => h (kindN_mark.1 (hv.trans h2))
    have HK := Lib.hid (kindAt_c s hs 0 0 rfl w T v hv)
    obtain rfl : n = 0 := by rw [← hn]; exact litExp_none h
    clear hn hv h
    go_enter Tryz.func32, Tryz.ntmps32
    go_wp2_with fail
    refine HK.out.mono ?_
    rintro e w1 ⟨rfl, rfl⟩
    go_wp2
    go_ret
    exact ⟨rfl, rfl⟩

set_option maxHeartbeats 1000000 in
theorem litLen_c (s : ByteArray) (hs : s.size ≤ 9223372036854775807) (w : World) (T : LTab w) (n : Nat) (hn : litLen (bytesOf s) = n) :
    Calls Tryz.prog 12 #[.string s] w fun e w' => e = .returned (.int .i64 (n : Int)) ∧ w = w' := by
  obtain ⟨a, ha⟩ : ∃ a, litRun (bytesOf s) = a := ⟨_, rfl⟩
  have has : a ≤ s.size := by have := litRun_le (bytesOf s); rw [ha, length_bytesOf] at this; exact this
  have HC := Lib.hid (digitsLen_c s hs s.size _ rfl hs w T a (by rw [ha]; omega))
  by_cases a0 : a = 0
  · subst a0
    obtain rfl : n = 0 := by rw [← hn]; exact if_pos ha
    clear hn ha
    go_enter Tryz.func12, Tryz.ntmps12
    go_wp2_with fail
    refine HC.out.mono ?_
    rintro e w1 ⟨rfl, rfl⟩
    go_wp2
    go_ret
    exact ⟨rfl, rfl⟩
  · have a1 : ((a : Int) == 0) = false := ne_kind a0
    obtain ⟨S, hS⟩ : ∃ S, s.extract a s.size = S := ⟨_, rfl⟩
    have hb : bytesOf S = (bytesOf s).drop a := by rw [← hS]; exact tail_of s a
    have hz : S.size = s.size - a := by rw [← hS]; exact tail_size s has
    obtain ⟨p, hp⟩ : ∃ p, litPoint (bytesOf S) = p := ⟨_, rfl⟩
    have hpl : p ≤ S.size := by
      obtain ⟨_, _, _, h3⟩ := point_parts (bytesOf S)
      rw [hp, length_bytesOf] at h3; exact h3
    have HP := Lib.hid (placesLen_c S (by omega) w T p hp)
    obtain ⟨b, hb2⟩ : ∃ b, a + p = b := ⟨_, rfl⟩
    have hbs : b ≤ s.size := by omega
    obtain ⟨S2, hS2⟩ : ∃ S2, s.extract b s.size = S2 := ⟨_, rfl⟩
    have hbb : bytesOf S2 = (bytesOf s).drop b := by rw [← hS2]; exact tail_of s b
    have hz2 : S2.size = s.size - b := by rw [← hS2]; exact tail_size s hbs
    obtain ⟨x, hx⟩ : ∃ x, litExp (bytesOf S2) = x := ⟨_, rfl⟩
    have hxl : x ≤ S2.size := by
      obtain ⟨_, _, _, h3⟩ := exp_parts (bytesOf S2)
      rw [hx, length_bytesOf] at h3; exact h3
    have HX := Lib.hid (exponentLen_c S2 (by omega) w T x hx)
    obtain rfl : n = b + x := by
      rw [← hn]
      unfold litLen
      rw [ha, if_neg a0, ← hb, hp, hb2, ← hbb, hx]
    have eb : (a : Int) + (p : Int) = (b : Int) := by omega
    clear hn ha hb hp hbb hx hb2
    go_enter Tryz.func12, Tryz.ntmps12
    go_wp2_with fail
    refine HC.out.mono ?_
    rintro e w1 ⟨rfl, rfl⟩
    go_wp2_with fail
    refine HP.out.mono ?_
    rintro e w1 ⟨rfl, rfl⟩
    go_wp2_with fail
    refine HX.out.mono ?_
    rintro e w1 ⟨rfl, rfl⟩
    go_wp2
    go_ret
    exact ⟨congrArg (fun v => Ending.returned (Value.int IntKind.i64 v)) (by omega), rfl⟩

set_option maxHeartbeats 1000000 in
theorem litGood_w (s : ByteArray) (hs : s.size ≤ 9223372036854775807) (w : World) (T : LTab w) (v : Bool) (hv : litGood (bytesOf s) = v) :
    Calls Tryz.prog 10 #[.string s] w fun e w' => e = .returned (.bool v) ∧ w = w' := by
  have HL := Lib.hid (length_bytesOf s)
  have Hv := Lib.hid hv
  clear hv
  by_cases h1 : 1 ≤ s.size
  · have h10 : (0 : Int) < (s.size : Int) := by omega
    by_cases h2 : s.size ≤ 400
    · have h20 : (s.size : Int) ≤ 400 := by omega
      obtain ⟨n, hn⟩ : ∃ n, litLen (bytesOf s) = n := ⟨_, rfl⟩
      have HC := Lib.hid (litLen_c s hs w T n hn)
      have HV : RowKit.Hid (((n : Int) == (s.size : Int)) = v) := by
        show _ = _
        rw [← Hv.out]
        unfold litGood
        rw [HL.out, hn, decide_eq_true h1, decide_eq_true h2]
        by_cases h3 : n = s.size
        · rw [h3, decide_eq_true rfl]; simp
        · rw [decide_eq_false h3, beq_eq_false_iff_ne.2 (by omega)]; rfl
      clear hn Hv HL
      go_enter Tryz.func10, Tryz.ntmps10
      go_wp2_with fail
      refine HC.out.mono ?_
      rintro e w1 ⟨rfl, rfl⟩
      have hv2 := HV.out
      go_wp2
      go_ret
      exact ⟨by first | rfl | (rw [← HV.out]; rfl), rfl⟩
    · have HV : RowKit.Hid (v = false) := by
        show _ = _
        rw [← Hv.out]; unfold litGood; rw [HL.out, decide_eq_true h1, decide_eq_false h2]; rfl
      have h3 : ¬ ((s.size : Int) ≤ 400) := by omega
      clear Hv HL
      go_enter Tryz.func10, Tryz.ntmps10
      go_wp2
      go_ret
      exact ⟨by rw [HV.out]; rfl, rfl⟩
  · have HV : RowKit.Hid (v = false) := by
      show _ = _
      rw [← Hv.out]; unfold litGood; rw [HL.out, decide_eq_false h1]; rfl
    have h3 : ¬ ((0 : Int) < (s.size : Int)) := by omega
    have h4 : ¬ (0 < s.size) := by omega
    clear Hv HL
    go_enter Tryz.func10, Tryz.ntmps10
    go_wp2
    go_ret
    exact ⟨by rw [HV.out]; rfl, rfl⟩

end Go.Proofs.YtjpoolddgocbbaaGreatDoor

/- What strings.Cut at one byte and strconv.Atoi at an exponent's text answer, as contracts over memory. Conditions: texts that can be read; for Atoi strconv's sentinel. -/
namespace Go.Proofs.YtjpoolddgocbbaaGreatDoor
open Go.RowKit Limb
set_option linter.unusedVariables false

theorem indexByte_miss : ∀ {l : List UInt8} {c : UInt8}, c ∉ l → Lib.indexByte l c = -1
  | [], _, _ => rfl
  | b :: l, c, h => by
    have h1 : (b == c) = false := by rw [beq_eq_false_iff_ne]; intro e; exact h (by simp [e])
    have h2 : c ∉ l := fun e => h (List.mem_cons_of_mem _ e)
    rw [Lib.indexByte, h1, indexByte_miss h2]
    rfl
theorem indexByte_hit : ∀ {a : List UInt8} {c : UInt8} (b : List UInt8), c ∉ a → Lib.indexByte (a ++ c :: b) c = (a.length : Int)
  | [], c, b, _ => by
    show Lib.indexByte (c :: b) c = _
    rw [Lib.indexByte, beq_self_eq_true]
    rfl
  | x :: a, c, b, h => by
    have h1 : (x == c) = false := by rw [beq_eq_false_iff_ne]; intro e; exact h (by simp [e])
    have h2 : c ∉ a := fun e => h (List.mem_cons_of_mem _ e)
    show Lib.indexByte (x :: (a ++ c :: b)) c = _
    rw [Lib.indexByte, h1, indexByte_hit b h2]
    have h3 : ((a.length : Int) == -1) = false := by rw [beq_eq_false_iff_ne]; omega
    rw [h3, List.length_cons]
    simp only [Bool.false_eq_true, if_false]
    omega
theorem index_bytes_miss {s : ByteArray} {c : UInt8} (h : c.toNat ∉ bytesOf s) : Lib.indexByte s.data.toList c = -1 :=
  indexByte_miss fun e => h (List.mem_map_of_mem e)
theorem index_bytes_hit {s : ByteArray} {c : UInt8} {a b : List Nat} (h : bytesOf s = a ++ c.toNat :: b) (hn : c.toNat ∉ a) : Lib.indexByte s.data.toList c = (a.length : Int) := by
  obtain ⟨l1, l2, e1, e2, e3⟩ := List.map_eq_append_iff.1 h
  obtain ⟨y, l3, e4, e5, e6⟩ := List.map_eq_cons_iff.1 e3
  have e7 : y = c := UInt8.toNat_inj.1 e5
  subst e7
  rw [e1, e4, indexByte_hit l3 (fun e => hn (by rw [← e2]; exact List.mem_map_of_mem e)), ← e2, List.length_map]

set_option maxHeartbeats 1000000 in
set_option maxRecDepth 4000 in
theorem sCut_hit (s : ByteArray) (hs : s.size ≤ 1000000000) (c : UInt8) (a b : List Nat) (h : bytesOf s = a ++ c.toNat :: b) (hn : c.toNat ∉ a) (w : World) :
    Calls Tryz.prog 46 #[.string s, .string ⟨#[c]⟩] w fun e w' => ∃ S1 S2, e = .returned (.tuple #[.string S1, .string S2, .bool true]) ∧ bytesOf S1 = a ∧ bytesOf S2 = b ∧ Below w.heap.size w w' := by
  have hi := index_bytes_hit h hn
  have hl : a.length + 1 + b.length = s.size := by rw [← length_bytesOf, h, List.length_append, List.length_cons]; omega
  obtain ⟨k, hk⟩ : ∃ k, a.length = k := ⟨_, rfl⟩
  rw [hk] at hi hl
  have hk1 : k ≤ s.size := by omega
  have hk2 : k + 1 ≤ s.size := by omega
  have HI := Lib.hid hi
  obtain ⟨S1, hS1⟩ : ∃ S1, s.extract 0 k = S1 := ⟨_, rfl⟩
  obtain ⟨S2, hS2⟩ : ∃ S2, s.extract (k + 1) s.size = S2 := ⟨_, rfl⟩
  have H1 : RowKit.Hid (bytesOf S1 = a) := by
    show _ = _
    rw [← hS1, bytesOf_extract, List.drop_zero, Nat.sub_zero, h, ← hk, List.take_left]
  have H2 : RowKit.Hid (bytesOf S2 = b) := by
    show _ = _
    rw [← hS2, bytesOf_extract, h, ← hk]
    have e : (a ++ c.toNat :: b).drop (a.length + 1) = b := by
      rw [← List.drop_drop, List.drop_left]; rfl
    rw [e]
    exact List.take_of_length_le (by omega)
  have HN := Lib.hid (below_drewN (Below.refl w.heap.size w))
  have hk3 : (0 : Int) ≤ (k : Int) := by omega
  have hk4 : (k : Int) ≤ (s.size : Int) := by omega
  have hk5 : (0 : Int) ≤ (k : Int) + 1 := by omega
  have hk6 : (k : Int) + 1 ≤ (s.size : Int) := by omega
  clear hi h hn hk
  go_enter Tryz.func46, Tryz.ntmps46
  go_wp2_with fail
  refine (Any.stringslite_Index_one Tryz.lays219 s c w).mono ?_
  rw [HI.out]
  rintro e w1 ⟨rfl, rfl⟩
  go_wp2
  go_quiet (fail)
  have bn := HN.out nq
  generalize w1.drewN nq = w2 at *
  go_wp2
  go_ret3
  exact ⟨S1, S2, rfl, H1.out, H2.out, bn⟩

set_option maxHeartbeats 1000000 in
theorem sCut_miss (s : ByteArray) (c : UInt8) (hn : c.toNat ∉ bytesOf s) (w : World) :
    Calls Tryz.prog 46 #[.string s, .string ⟨#[c]⟩] w fun e w' => e = .returned (.tuple #[.string s, .string ⟨#[]⟩, .bool false]) ∧ w = w' := by
  have HI := Lib.hid (index_bytes_miss hn)
  clear hn
  go_enter Tryz.func46, Tryz.ntmps46
  go_wp2_with fail
  refine (Any.stringslite_Index_one Tryz.lays219 s c w).mono ?_
  rw [HI.out]
  rintro e w1 ⟨rfl, rfl⟩
  go_wp2
  go_ret3
  exact ⟨rfl, rfl⟩

/-- strings.Cut at one byte: what stands ahead of its first place, and behind it. -/
theorem cutAt_c (s : ByteArray) (hs : s.size ≤ 1000000000) (c : UInt8) (a b : List Nat) (h : bytesOf s = a ++ c.toNat :: b ∨ (bytesOf s = a ∧ b = [])) (hn : c.toNat ∉ a) (w : World) :
    Calls Tryz.prog 21 #[.string s, .string ⟨#[c]⟩] w fun e w' => ∃ S1 S2 f, e = .returned (.tuple #[.string S1, .string S2, .bool f]) ∧ bytesOf S1 = a ∧ bytesOf S2 = b ∧ Below w.heap.size w w' := by
  rcases h with h | ⟨h, hb⟩
  · have HC := Lib.hid (sCut_hit s hs c a b h hn w)
    clear h hn
    go_enter Tryz.func21, Tryz.ntmps21
    go_wp2_with fail
    refine HC.out.mono ?_
    rintro e w1 ⟨S1, S2, rfl, h1, h2, hb⟩
    have H1 := Lib.hid h1
    have H2 := Lib.hid h2
    have HB := Lib.hid hb
    clear h1 h2 hb
    go_wp2
    go_ret3
    exact ⟨S1, S2, true, rfl, H1.out, H2.out, HB.out⟩
  · rw [← h] at hn
    have HC := Lib.hid (sCut_miss s c hn w)
    have H1 := Lib.hid h
    have H2 := Lib.hid hb
    clear h hb hn
    go_enter Tryz.func21, Tryz.ntmps21
    go_wp2_with fail
    refine HC.out.mono ?_
    rintro e w1 ⟨rfl, rfl⟩
    go_wp2
    go_ret3
    exact ⟨s, ⟨#[]⟩, false, rfl, H1.out, by rw [H2.out]; rfl, Below.refl _ _⟩

theorem decFrom_yes : ∀ {l : List UInt8} (acc : Nat), allDig (l.map UInt8.toNat) = true → Lib.decFrom acc l = some (acc * 10 ^ l.length + decV (l.map UInt8.toNat))
  | [], acc, _ => by simp [Lib.decFrom, decV_nil]
  | c :: r, acc, h => by
    rw [List.map_cons] at h ⊢
    have h1 := allDig_iff.1 h c.toNat (by simp)
    have h2 : allDig (r.map UInt8.toNat) = true := allDig_iff.2 fun x hx => allDig_iff.1 h x (List.mem_cons_of_mem _ hx)
    have hd : Lib.digitVal c = some (c.toNat - 48) := if_pos h1
    simp only [Lib.decFrom, hd]
    rw [decFrom_yes _ h2, decV_cons, List.length_cons, Nat.pow_succ, List.length_map]
    congr 1
    grind
theorem decNat_yes {l : List UInt8} (h : allDig (l.map UInt8.toNat) = true) (h0 : l ≠ []) : Lib.decNat l = some (decV (l.map UInt8.toNat)) := by
  have e : l.isEmpty = false := by cases l with
    | nil => exact absurd rfl h0
    | cons _ _ => rfl
  rw [Lib.decNat, e]
  simp only [Bool.false_eq_true, if_false]
  rw [decFrom_yes 0 h, Nat.zero_mul, Nat.zero_add]
/-- An exponent's text and its number. -/
def expV (s : Bool) (d : List Nat) : Int := if s = true then -((decV d : Nat) : Int) else ((decV d : Nat) : Int)
theorem atoi_exp {E : ByteArray} {s : Bool} {d : List Nat} (h : bytesOf E = litSg s ++ d) (hd : Dig1 d) : Lib.atoi E.data.toList = some (expV s d) := by
  unfold bytesOf at h
  generalize E.data.toList = l at h ⊢
  cases s with
  | true =>
    have h2 : l.map UInt8.toNat = 45 :: d := h
    obtain ⟨y, l3, e4, e5, e6⟩ := List.map_eq_cons_iff.1 h2
    have e7 : y = 45 := UInt8.toNat_inj.1 e5
    subst e4 e7
    have h0 : l3 ≠ [] := fun e => hd.2 (by rw [← e6, e]; rfl)
    have h3 := decNat_yes (l := l3) (by rw [e6]; exact hd.1) h0
    rw [e6] at h3
    show Option.map _ (Lib.decNat l3) = _
    rw [h3]; rfl
  | false =>
    have h2 : l.map UInt8.toNat = d := h
    have h0 : l ≠ [] := fun e => hd.2 (by rw [← h2, e]; rfl)
    have h3 := decNat_yes (l := l) (by rw [h2]; exact hd.1) h0
    rw [h2] at h3
    cases l with
    | nil => exact absurd rfl h0
    | cons b r =>
      have hb := allDig_iff.1 hd.1 b.toNat (by rw [← h2]; simp)
      have n1 : (b == 45) = false := by
        rw [beq_eq_false_iff_ne]; rintro rfl
        exact absurd hb (by decide)
      have n2 : (b == 43) = false := by
        rw [beq_eq_false_iff_ne]; rintro rfl
        exact absurd hb (by decide)
      show (if (b == 45) = true then (Lib.decNat r).map (fun m : Nat => -(m : Int)) else if (b == 43) = true then (Lib.decNat r).map (fun m : Nat => (m : Int)) else (Lib.decNat (b :: r)).map (fun m : Nat => (m : Int))) = _
      rw [n1, n2, h3]
      rfl
/-- strconv.Atoi at an exponent's text, or at none. -/
theorem readExp_c (E : ByteArray) (n : Int) (h : (bytesOf E = [] ∧ n = 0) ∨ ∃ s d, bytesOf E = litSg s ++ d ∧ Dig1 d ∧ d.length ≤ 3 ∧ n = expV s d) (w : World) (T : LTab w) :
    Calls Tryz.prog 23 #[.string E] w fun e w' => ∃ v, e = .returned (.tuple #[.int .i64 n, v]) ∧ Below w.heap.size w w' := by
  rcases h with ⟨h, rfl⟩ | ⟨s, d, h, hd, hd3, rfl⟩
  · have hl : E.data.toList = [] := List.map_eq_nil_iff.1 h
    have hz : E.size = 0 := by show E.data.size = 0; rw [← Array.length_toList, hl]; rfl
    obtain ⟨te, pe, he⟩ := T.1.2
    refine (Any.strconv_Atoi_err Tryz.laysC172 E (by omega) (by rw [hl]; rfl) _ w he (.inr ⟨te, pe, rfl⟩)).mono ?_
    rintro e w' ⟨N, rfl, _, _, hb⟩
    exact ⟨_, rfl, hb⟩
  · have hz : E.size ≤ 18 := by
      rw [← length_bytesOf, h, List.length_append]
      cases s <;> simp [litSg] <;> omega
    refine (Any.strconv_Atoi Tryz.lays172 E _ hz (atoi_exp h hd) w).mono ?_
    rintro e w' ⟨rfl, t, rfl⟩
    exact ⟨_, rfl, Lib.bytesWorld_below _ _ _⟩

end Go.Proofs.YtjpoolddgocbbaaGreatDoor

/- What package literal's scale and Parse answer, as contracts over memory; Good and Length in the form that the statements ask. Conditions: texts that can be read; the tables read as they are laid. -/
namespace Go.Proofs.YtjpoolddgocbbaaGreatDoor
open Go.RowKit Limb
set_option linter.unusedVariables false

theorem litGood_c (s : ByteArray) (hs : s.size ≤ 9223372036854775807) (w : World) (T : LTab w) (v : Bool) (hv : litGood (bytesOf s) = v) : Calls Tryz.prog 10 #[.string s] w fun e w' => e = .returned (.bool v) ∧ Below w.heap.size w w' :=
  (litGood_w s hs w T v hv).mono fun e w' h => ⟨h.1, h.2 ▸ Below.refl _ _⟩
theorem litLength_c (s : ByteArray) (hs : s.size ≤ 9223372036854775807) (w : World) (T : LTab w) (n : Nat) (hn : litLen (bytesOf s) = n) : Calls Tryz.prog 12 #[.string s] w fun e w' => e = .returned (.int .i64 (n : Int)) ∧ Below w.heap.size w w' :=
  (litLen_c s hs w T n hn).mono fun e w' h => ⟨h.1, h.2 ▸ Below.refl _ _⟩

theorem zz_nat {w : World} {A : Option Addr} {n c a L : Nat} (h : NN w A n c (limbs a) a L) : ZZ w false A n c (limbs a) (a : Int) L := ⟨h, by simp⟩

section
variable {w : World} {A : Option Addr} {n c D L : Nat}
set_option maxHeartbeats 1000000 in
set_option maxRecDepth 4000 in
theorem lScale_up (hx : NN w A n c (limbs D) D L) (h1 : L ≤ 300) (T : LTab w) (N : Nat) (V : Int) (hV : V = N) (hN : N ≤ 1399) (P : Nat) (hP : 10 ^ N = P) (r : Option Rat) (e : Int) (hR : ofR ((D : Int) * (P : Int)) 1 = (r, e)) :
    Calls Tryz.prog 24 #[.slice A n c, .int .i64 V] w fun ee w' => ∃ A2 n2 c2 B2 m2 d2, ee = .returned (.tuple #[.agg #[.bool (sg (oTop r)), .slice A2 n2 c2, .slice B2 m2 d2], .int .i64 e]) ∧ QT w' A2 n2 c2 B2 m2 d2 r ∧ Below w.heap.size w w' := by
  subst hV
  have b1 := below_new w (.cells #[Value.bool false, Value.slice none 0 0, Value.slice none 0 0] 28)
  have HW := Lib.hid b1
  have HX := Lib.hid (hx.below b1)
  have HT := Lib.hid (T.below b1)
  have rz := row3_new w 28 (.bool false) (.slice none 0 0) (.slice none 0 0)
  have Hq : RowKit.Hid (w.heap.size ≤ w.heap.size) := Nat.le_refl _
  have HP := Lib.hid hP
  have HO : RowKit.Hid (ofR ((D * P : Nat) : Int) 1 = (r, e)) := by show _ = _; rw [Int.natCast_mul]; exact hR
  have em : max (N : Int) (-(N : Int)) = (N : Int) := by omega
  have em2 : -(N : Int) ≤ (N : Int) := by omega
  have en : IntKind.i64.wrap (-(N : Int)) = -(N : Int) := by rw [IntKind.wrap_i64]; omega
  have hn0 : (0 : Int) ≤ (N : Int) := by omega
  clear b1 hx T hP hR
  go_enter Tryz.func24, Tryz.ntmps24
  go_wp2_with fail
  generalize w.alloc (.cells #[Value.bool false, Value.slice none 0 0, Value.slice none 0 0] 28) = w1 at *
  have HZ := Lib.hid rz
  clear rz
  refine (digTen_yes N _ (by first | rfl | omega) (by omega) w1 HT.out.1).mono ?_
  rintro e w2 ⟨A1, n1, c1, rfl, h2, bn⟩
  rw [HP.out] at h2
  have H2 := Lib.hid h2
  replace HX := Lib.hid (HX.out.below bn)
  replace HZ := Lib.hid (HZ.out.below bn)
  replace HW := Lib.hid (below_two HW.out bn)
  clear bn h2 HT
  go_wp2_with fail
  refine (mulOf_c HX.out H2.out 523 (by omega) (by decide) (by omega)).mono ?_
  rintro e w3 ⟨A3, n3, c3, rfl, h3, bn⟩
  have H3 := Lib.hid h3
  replace HZ := Lib.hid (HZ.out.below bn)
  replace HW := Lib.hid (below_two HW.out bn)
  clear bn h3 HX H2
  go_wp2_with fail
  refine (of_c 1 _ rfl (by decide) w3).mono ?_
  rintro e w4 ⟨A4, n4, c4, rfl, h4, bn⟩
  have H4 := Lib.hid h4
  replace H3 := Lib.hid (H3.out.below bn)
  replace HZ := Lib.hid (HZ.out.below bn)
  replace HW := Lib.hid (below_two HW.out bn)
  clear bn h4
  go_wp2_with fail
  refine (rOf_c (zz_nat H3.out) H4.out (by decide) (by decide) r _ HO.out).mono ?_
  rintro e w5 ⟨A5, n5, c5, B5, m5, d5, rfl, h5, bn⟩
  have hZ3 := HZ.out.below bn
  have hNo := hZ3.noLimb (by intro v e; cases e) (by intro v e; cases e) (by intro v e; cases e)
  have e0 := hZ3.c0
  have e1 := hZ3.c1
  have e2 := hZ3.c2
  have f0 := hZ3.free 0
  have f1 := hZ3.free 1
  have f2 := hZ3.free 2
  have HF := Lib.hid (hZ3.fill (.bool (sg (oTop r))) (.slice A5 n5 c5) (.slice B5 m5 d5))
  have HQ := Lib.hid (QQ.fillR3 h5 hNo (.bool (sg (oTop r))) (.slice A5 n5 c5) (.slice B5 m5 d5))
  have HB := Lib.hid (below_fill3' (below_two HW.out bn) Hq.out (.bool (sg (oTop r))) (.slice A5 n5 c5) (.slice B5 m5 d5))
  clear bn h5 hZ3 hNo
  go_wp2
  refine bodyPost_ret (results_mixed rfl _ _ _ 28 #[.bool (sg (oTop r)), .slice A5 n5 c5, .slice B5 m5 d5] (0, 0) _ (.int .i64 _) rfl rfl HF.out Tryz.underlying28 rfl rat_size) rfl ?_
  exact ⟨A5, n5, c5, B5, m5, d5, rfl, HQ.out, HB.out⟩

set_option maxHeartbeats 1000000 in
set_option maxRecDepth 4000 in
theorem lScale_down (hx : NN w A n c (limbs D) D L) (h1 : L ≤ 300) (T : LTab w) (N : Nat) (V : Int) (hV : V = -(N : Int)) (h0 : 0 < N) (hN : N ≤ 1399) (P : Nat) (hP : 10 ^ N = P) (r : Option Rat) (e : Int) (hR : ofR (D : Int) P = (r, e)) :
    Calls Tryz.prog 24 #[.slice A n c, .int .i64 V] w fun ee w' => ∃ A2 n2 c2 B2 m2 d2, ee = .returned (.tuple #[.agg #[.bool (sg (oTop r)), .slice A2 n2 c2, .slice B2 m2 d2], .int .i64 e]) ∧ QT w' A2 n2 c2 B2 m2 d2 r ∧ Below w.heap.size w w' := by
  subst hV
  have b1 := below_new w (.cells #[Value.bool false, Value.slice none 0 0, Value.slice none 0 0] 28)
  have HW := Lib.hid b1
  have HX := Lib.hid (hx.below b1)
  have HT := Lib.hid (T.below b1)
  have rz := row3_new w 28 (.bool false) (.slice none 0 0) (.slice none 0 0)
  have Hq : RowKit.Hid (w.heap.size ≤ w.heap.size) := Nat.le_refl _
  have HP := Lib.hid hP
  have HO := Lib.hid hR
  have em : max (-(N : Int)) (N : Int) = (N : Int) := by omega
  have em2 : -(N : Int) < (N : Int) := by omega
  have en : IntKind.i64.wrap (-(-(N : Int))) = (N : Int) := by rw [IntKind.wrap_i64]; omega
  have en2 : IntKind.i64.wrap (N : Int) = (N : Int) := by rw [IntKind.wrap_i64]; omega
  have hn0 : -(N : Int) < 0 := by omega
  clear b1 hx T hP hR
  go_enter Tryz.func24, Tryz.ntmps24
  go_wp2_with fail
  generalize w.alloc (.cells #[Value.bool false, Value.slice none 0 0, Value.slice none 0 0] 28) = w1 at *
  have HZ := Lib.hid rz
  clear rz
  refine (digTen_yes N _ (by first | rfl | omega) (by omega) w1 HT.out.1).mono ?_
  rintro e w2 ⟨A1, n1, c1, rfl, h2, bn⟩
  rw [HP.out] at h2
  have H2 := Lib.hid h2
  replace HX := Lib.hid (HX.out.below bn)
  replace HZ := Lib.hid (HZ.out.below bn)
  replace HW := Lib.hid (below_two HW.out bn)
  clear bn h2 HT
  go_wp2_with fail
  refine (rOf_c (zz_nat HX.out) H2.out (by omega) (by decide) r _ HO.out).mono ?_
  rintro e w5 ⟨A5, n5, c5, B5, m5, d5, rfl, h5, bn⟩
  have hZ3 := HZ.out.below bn
  have hNo := hZ3.noLimb (by intro v e; cases e) (by intro v e; cases e) (by intro v e; cases e)
  have e0 := hZ3.c0
  have e1 := hZ3.c1
  have e2 := hZ3.c2
  have f0 := hZ3.free 0
  have f1 := hZ3.free 1
  have f2 := hZ3.free 2
  have HF := Lib.hid (hZ3.fill (.bool (sg (oTop r))) (.slice A5 n5 c5) (.slice B5 m5 d5))
  have HQ := Lib.hid (QQ.fillR3 h5 hNo (.bool (sg (oTop r))) (.slice A5 n5 c5) (.slice B5 m5 d5))
  have HB := Lib.hid (below_fill3' (below_two HW.out bn) Hq.out (.bool (sg (oTop r))) (.slice A5 n5 c5) (.slice B5 m5 d5))
  clear bn h5 hZ3 hNo
  go_wp2
  refine bodyPost_ret (results_mixed rfl _ _ _ 28 #[.bool (sg (oTop r)), .slice A5 n5 c5, .slice B5 m5 d5] (0, 0) _ (.int .i64 _) rfl rfl HF.out Tryz.underlying28 rfl rat_size) rfl ?_
  exact ⟨A5, n5, c5, B5, m5, d5, rfl, HQ.out, HB.out⟩
/-- A size times a power of ten. -/
theorem lScale_c (hx : NN w A n c (limbs D) D L) (h1 : L ≤ 300) (T : LTab w) (V : Int) (hN : V.natAbs ≤ 1399) (r : Option Rat) (e : Int) (hR : (if 0 ≤ V then ofR ((D : Int) * ((10 ^ V.natAbs : Nat) : Int)) 1 else ofR (D : Int) (10 ^ V.natAbs)) = (r, e)) :
    Calls Tryz.prog 24 #[.slice A n c, .int .i64 V] w fun ee w' => ∃ A2 n2 c2 B2 m2 d2, ee = .returned (.tuple #[.agg #[.bool (sg (oTop r)), .slice A2 n2 c2, .slice B2 m2 d2], .int .i64 e]) ∧ QT w' A2 n2 c2 B2 m2 d2 r ∧ Below w.heap.size w w' := by
  by_cases h : 0 ≤ V
  · rw [if_pos h] at hR
    exact lScale_up hx h1 T V.natAbs V (by omega) hN _ rfl r e hR
  · rw [if_neg h] at hR
    exact lScale_down hx h1 T V.natAbs V (by omega) (by omega) hN _ rfl r e hR
end

theorem no_dig {l : List Nat} (h : allDig l = true) {c : Nat} (hc : isDig c = false) : c ∉ l := fun hm => by
  have := List.all_eq_true.1 h c hm
  rw [hc] at this; cases this
/-- What a literal's parts are, as the code cuts them. -/
theorem good_cut {l : List Nat} (h : litGood l = true) : ∃ a b ws ps, (l = a ++ 101 :: b ∨ (l = a ∧ b = [])) ∧ 101 ∉ a ∧ (a = ws ++ 46 :: ps ∨ (a = ws ∧ ps = [])) ∧ 46 ∉ ws ∧
    (litRead l).ds = ws ++ ps ∧ (litRead l).places = ps.length ∧ (b = [] ∧ litPow (litRead l) + (ps.length : Int) = 0 ∨ ∃ s d, b = litSg s ++ d ∧ Dig1 d ∧ d.length ≤ 3 ∧ litPow (litRead l) + (ps.length : Int) = expV s d) := by
  obtain ⟨w, f, x, hok, rfl⟩ := good_mk h
  rw [litRead_mk hok]
  refine ⟨w ++ litF f, (match x with | none => [] | some (s, d) => litSg s ++ d), w, f.getD [], ?_, ?_, ?_, no_dig hok.whole.1 (by decide), rfl, rfl, ?_⟩
  · cases x with
    | none => exact .inr ⟨by unfold litMk litX; rw [List.append_nil], rfl⟩
    | some y => exact .inl rfl
  · intro hm
    rcases List.mem_append.1 hm with hm | hm
    · exact no_dig hok.whole.1 (by decide) hm
    · cases f with
      | none => cases hm
      | some p =>
        rcases List.mem_cons.1 hm with hm | hm
        · exact absurd hm (by decide)
        · exact no_dig (hok.part p rfl).1 (by decide) hm
  · cases f with
    | none => exact .inr ⟨by show w ++ [] = w; rw [List.append_nil], rfl⟩
    | some p => exact .inl rfl
  · cases x with
    | none =>
      refine .inl ⟨rfl, ?_⟩
      show (if false = true then -((decV [] : Nat) : Int) else ((decV [] : Nat) : Int)) - ((f.getD []).length : Int) + ((f.getD []).length : Int) = 0
      rw [if_neg (by decide), decV_nil]; omega
    | some y =>
      obtain ⟨s, d⟩ := y
      obtain ⟨h1, h2⟩ := hok.exp s d rfl
      refine .inr ⟨s, d, rfl, h1, h2, ?_⟩
      show expV s d - ((f.getD []).length : Int) + ((f.getD []).length : Int) = expV s d
      omega
theorem litR_pow {l : List Nat} (h : litGood l = true) {D : Nat} (hD : decV (litRead l).ds = D) {k : Int} (hk : litPow (litRead l) = k) {r : Option Rat} {e : Int} (hR : litR l = (r, e)) :
    (if 0 ≤ k then ofR ((D : Int) * ((10 ^ k.natAbs : Nat) : Int)) 1 else ofR (D : Int) (10 ^ k.natAbs)) = (r, e) := by
  obtain ⟨t, ht⟩ : ∃ t, litRead l = t := ⟨_, rfl⟩
  rw [ht] at hD hk
  cases t with
  | mk ds pl ex ng pt ee =>
  by_cases h0 : 0 ≤ k
  · rw [if_pos h0]
    exact litR_up h ht (N := k.natAbs) (by rw [hk]; omega) hD rfl hR
  · rw [if_neg h0]
    exact litR_down h ht (N := k.natAbs) (by rw [hk]; omega) hD rfl hR

set_option maxHeartbeats 2000000 in
set_option maxRecDepth 4000 in
theorem litParse_c (s : ByteArray) (hs : s.size ≤ 9223372036854775807) (w : World) (T : LTab w) (r : Option Rat) (e : Int) (hR : litR (bytesOf s) = (r, e)) : Calls Tryz.prog 8 #[.string s] w fun ee w' => ∃ A2 n2 c2 B2 m2 d2, ee = .returned (.tuple #[.agg #[.bool (sg (oTop r)), .slice A2 n2 c2, .slice B2 m2 d2], .int .i64 e]) ∧ QT w' A2 n2 c2 B2 m2 d2 r ∧ Below w.heap.size w w' := by
  have b1 := below_new w (.cells #[Value.bool false, Value.slice none 0 0, Value.slice none 0 0] 28)
  have HW := Lib.hid b1
  have HT := Lib.hid (T.below b1)
  have rz := row3_new w 28 (.bool false) (.slice none 0 0) (.slice none 0 0)
  have Hq : RowKit.Hid (w.heap.size ≤ w.heap.size) := Nat.le_refl _
  clear b1 T
  cases hg : litGood (bytesOf s) with
  | false =>
    rw [litR_no hg] at hR
    cases hR
    have HG := Lib.hid hg
    clear hg
    go_enter Tryz.func8, Tryz.ntmps8
    go_wp2_with fail
    generalize w.alloc (.cells #[Value.bool false, Value.slice none 0 0, Value.slice none 0 0] 28) = w1 at *
    have HZ := Lib.hid rz
    clear rz
    refine (litGood_w s hs w1 HT.out false HG.out).mono ?_
    rintro e w2 ⟨rfl, rfl⟩
    have e0 := HZ.out.c0
    have e1 := HZ.out.c1
    have e2 := HZ.out.c2
    have f0 := HZ.out.free 0
    have f1 := HZ.out.free 1
    have f2 := HZ.out.free 2
    have HF := Lib.hid (HZ.out.fill (.bool false) (.slice none 0 0) (.slice none 0 0))
    have HB := Lib.hid (below_fill3' HW.out Hq.out (.bool false) (.slice none 0 0) (.slice none 0 0))
    go_wp2
    refine bodyPost_ret (results_mixed rfl _ _ _ 28 #[.bool false, .slice none 0 0, .slice none 0 0] (0, 0) _ (.int .i64 12) rfl rfl HF.out Tryz.underlying28 rfl rat_size) rfl ?_
    exact ⟨none, 0, 0, none, 0, 0, rfl, qt_none _ 0 0, HB.out⟩
  | true =>
    obtain ⟨a, b, ws, ps, h1, h2, h3, h4, h5, h6, h7⟩ := good_cut hg
    have hz : s.size ≤ 400 := by have := (litGood_iff.1 hg).2.1; rw [length_bytesOf] at this; exact this
    obtain ⟨t, ht⟩ : ∃ t, litRead (bytesOf s) = t := ⟨_, rfl⟩
    obtain ⟨hnum, hdec⟩ : numOk (litRead (bytesOf s)).ds = true ∧ numV (litRead (bytesOf s)).ds = decV (litRead (bytesOf s)).ds := by
      rw [ht]; cases t with
      | mk ds pl ex ng pt ee => exact num_read hg ht
    obtain ⟨g1, g2, _, g3, _⟩ := good_end hg
    obtain ⟨D, hD⟩ : ∃ D, decV (litRead (bytesOf s)).ds = D := ⟨_, rfl⟩
    rw [hD] at hdec
    obtain ⟨k, hk⟩ : ∃ k, litPow (litRead (bytesOf s)) = k := ⟨_, rfl⟩
    have HO := Lib.hid (litR_pow hg hD hk hR)
    have hk2 : k.natAbs ≤ 1399 := by
      rw [← hk]; unfold litPow
      split <;> omega
    rw [h5] at hnum hdec g3
    rw [hk] at h7
    rw [h6] at g2
    rw [List.length_append] at g3
    obtain ⟨m, hm⟩ : ∃ m, k + (ps.length : Int) = m := ⟨_, rfl⟩
    rw [hm] at h7
    obtain ⟨p, hp⟩ : ∃ p, ps.length = p := ⟨_, rfl⟩
    rw [hp] at hm g2 g3
    have H1 := Lib.hid h1
    have H2 := Lib.hid h2
    have H3 := Lib.hid h3
    have H4 := Lib.hid h4
    have H7 := Lib.hid h7
    have Hp := Lib.hid hp
    have Hnum := Lib.hid hnum
    have Hdec := Lib.hid hdec
    have HG := Lib.hid hg
    clear hg hR h1 h2 h3 h4 h5 h6 h7 hnum hdec ht hD hk hp g1
    have ek : m - (p : Int) = k := by omega
    have hm1 : m.natAbs ≤ 1799 := by omega
    clear hm
    go_enter Tryz.func8, Tryz.ntmps8
    go_wp2_with fail
    generalize w.alloc (.cells #[Value.bool false, Value.slice none 0 0, Value.slice none 0 0] 28) = w1 at *
    have HZ := Lib.hid rz
    clear rz
    refine (litGood_w s hs w1 HT.out true HG.out).mono ?_
    rintro e w2 ⟨rfl, rfl⟩
    go_wp2_with fail
    refine (cutAt_c s (by omega) 101 a b H1.out H2.out w1).mono ?_
    rintro e w2 ⟨S1, S2, f, rfl, k1, k2, bn⟩
    have K1 := Lib.hid k1
    have K2 := Lib.hid k2
    have hS1 : S1.size ≤ 400 := by
      rw [← length_bytesOf, k1]
      rcases H1.out with h | ⟨h, _⟩
      · have := congrArg List.length h; rw [length_bytesOf, List.length_append] at this; omega
      · rw [← h, length_bytesOf]; exact hz
    replace HT := Lib.hid (HT.out.below bn)
    replace HZ := Lib.hid (HZ.out.below bn)
    replace HW := Lib.hid (below_two HW.out bn)
    clear bn k1 k2
    go_wp2_with fail
    refine (cutAt_c S1 (by omega) 46 ws ps (by rw [K1.out]; exact H3.out) H4.out w2).mono ?_
    rintro e w3 ⟨S3, S4, f2, rfl, k3, k4, bn⟩
    have K3 := Lib.hid k3
    have K4 := Lib.hid k4
    have hS4 : S4.size = p := by rw [← length_bytesOf, k4, Hp.out]
    have hS3 : S3.size + p ≤ 400 := by rw [← length_bytesOf, k3]; exact g3
    replace HT := Lib.hid (HT.out.below bn)
    replace HZ := Lib.hid (HZ.out.below bn)
    replace HW := Lib.hid (below_two HW.out bn)
    clear bn k3 k4 g3
    obtain ⟨S5, hS5⟩ : ∃ S5, S3 ++ S4 = S5 := ⟨_, rfl⟩
    have K5 : RowKit.Hid (bytesOf S5 = ws ++ ps) := by show _ = _; rw [← hS5, bytesOf_append, K3.out, K4.out]
    go_wp2_with fail
    refine (digParse_c S5 w3 HT.out.1 true (by rw [K5.out]; exact Hnum.out) D (by rw [K5.out]; exact Hdec.out)).mono ?_
    rintro e w4 ⟨A1, n1, c1, rfl, hn1, bn⟩
    have HN := Lib.hid hn1
    replace HT := Lib.hid (HT.out.below bn)
    replace HZ := Lib.hid (HZ.out.below bn)
    replace HW := Lib.hid (below_two HW.out bn)
    clear bn hn1
    go_wp2_with fail
    refine (readExp_c S2 m (by rw [K2.out]; exact H7.out) w4 HT.out).mono ?_
    rintro e w5 ⟨v, rfl, bn⟩
    replace HN := Lib.hid (HN.out.below bn)
    replace HT := Lib.hid (HT.out.below bn)
    replace HZ := Lib.hid (HZ.out.below bn)
    replace HW := Lib.hid (below_two HW.out bn)
    clear bn
    go_wp2_with fail
    refine (lScale_c HN.out (by decide) HT.out k hk2 r _ HO.out).mono ?_
    rintro e w6 ⟨A5, n5, c5, B5, m5, d5, rfl, h5, bn⟩
    have hZ3 := HZ.out.below bn
    have hNo := hZ3.noLimb (by intro v e; cases e) (by intro v e; cases e) (by intro v e; cases e)
    have e0 := hZ3.c0
    have e1 := hZ3.c1
    have e2 := hZ3.c2
    have f0 := hZ3.free 0
    have f1 := hZ3.free 1
    have f2 := hZ3.free 2
    have HF := Lib.hid (hZ3.fill (.bool (sg (oTop r))) (.slice A5 n5 c5) (.slice B5 m5 d5))
    have HQ := Lib.hid (QQ.fillR3 h5 hNo (.bool (sg (oTop r))) (.slice A5 n5 c5) (.slice B5 m5 d5))
    have HB := Lib.hid (below_fill3' (below_two HW.out bn) Hq.out (.bool (sg (oTop r))) (.slice A5 n5 c5) (.slice B5 m5 d5))
    clear bn h5 hZ3 hNo
    go_wp2
    refine bodyPost_ret (results_mixed rfl _ _ _ 28 #[.bool (sg (oTop r)), .slice A5 n5 c5, .slice B5 m5 d5] (0, 0) _ (.int .i64 _) rfl rfl HF.out Tryz.underlying28 rfl rat_size) rfl ?_
    exact ⟨A5, n5, c5, B5, m5, d5, rfl, HQ.out, HB.out⟩

end Go.Proofs.YtjpoolddgocbbaaGreatDoor

/- The statements' check that package literal is there (wakes) answers true, whatever the memory is, where the tables read as they are laid. Condition: the tables (LTab). -/
namespace Go.Proofs.YtjpoolddgocbbaaGreatDoor
open Go.RowKit Limb
set_option linter.unusedVariables false
/-- The number that wakes speaks of. -/
def gwA : Rat := mkRat 5 4
theorem gW1 : litR (bytesOf ⟨#[49, 50, 46, 53, 48, 101, 45, 49]⟩) = (some gwA, 0) := by decide +kernel
theorem gW2 : litR (bytesOf ⟨#[49, 46]⟩) = (none, 12) := by decide +kernel
theorem gW3 : litR (bytesOf ⟨#[49, 101, 57, 48, 48]⟩) = (none, 2) := by decide +kernel
theorem gW4 : divR (some ((5 : Int) : Rat)) (some ((4 : Int) : Rat)) = (some gwA, 0) := by decide +kernel
theorem gL1 : litLen (bytesOf ⟨#[49, 46, 53, 101, 50, 51, 52, 53, 120]⟩) = 7 := by decide +kernel
theorem gL2 : litLen (bytesOf ⟨#[49, 46, 101, 50]⟩) = 1 := by decide +kernel
theorem gL3 : litLen (bytesOf ⟨#[120]⟩) = 0 := by decide +kernel
theorem gG1 : litGood (bytesOf ⟨#[48, 48, 55]⟩) = true := by decide +kernel
theorem gG2 : litGood (bytesOf ⟨#[45, 49]⟩) = false := by decide +kernel

set_option maxHeartbeats 4000000 in
set_option maxRecDepth 100000 in
theorem wakes_any (w : World) (T : LTab w) : Calls Tryz.prog 7 #[] w fun e w' => e = .returned (.bool true) ∧ Below w.heap.size w w' := by
  have bw := bel_refl w
  have HTab := Lib.hid T
  clear T
  go_enter Tryz.func7, Tryz.ntmps7
  go_wp2_with fail
  refine (litParse_c ⟨#[49, 50, 46, 53, 48, 101, 45, 49]⟩ (by decide) _ HTab.out _ _ gW1).mono ?_
  rintro e w1 ⟨A_a, n_a, c_a, B_a, m_a, d_a, rfl, h_a, bn⟩
  replace HTab := Lib.hid (HTab.out.below bn)
  replace bw := below_two bw bn
  clear bn
  have h_ra := row3_new w1 28 (.bool (sg (oTop (some gwA)))) (.slice A_a n_a c_a) (.slice B_a m_a d_a)
  have bn := below_new w1 (.cells #[Value.bool (sg (oTop (some gwA))), Value.slice A_a n_a c_a, Value.slice B_a m_a d_a] 28)
  replace h_a := h_a.below bn
  replace HTab := Lib.hid (HTab.out.below bn)
  replace bw := below_two bw bn
  clear bn
  go_wp2_with fail
  generalize w1.alloc (.cells #[Value.bool (sg (oTop (some gwA))), Value.slice A_a n_a c_a, Value.slice B_a m_a d_a] 28) = w2 at *
  obtain ⟨q_a, eg⟩ : ∃ g, g = w1.heap.size := ⟨_, rfl⟩
  rw [← eg] at h_ra ⊢
  clear eg
  refine (litParse_c ⟨#[49, 46]⟩ (by decide) _ HTab.out _ _ gW2).mono ?_
  rintro e w3 ⟨A_b, n_b, c_b, B_b, m_b, d_b, rfl, h_b, bn⟩
  replace h_a := h_a.below bn
  replace h_ra := h_ra.below bn
  replace HTab := Lib.hid (HTab.out.below bn)
  replace bw := below_two bw bn
  clear bn
  have h_rb := row3_new w3 28 (.bool (sg (oTop none))) (.slice A_b n_b c_b) (.slice B_b m_b d_b)
  have bn := below_new w3 (.cells #[Value.bool (sg (oTop none)), Value.slice A_b n_b c_b, Value.slice B_b m_b d_b] 28)
  replace h_a := h_a.below bn
  replace h_ra := h_ra.below bn
  replace h_b := h_b.below bn
  replace HTab := Lib.hid (HTab.out.below bn)
  replace bw := below_two bw bn
  clear bn
  go_wp2_with fail
  generalize w3.alloc (.cells #[Value.bool (sg (oTop none)), Value.slice A_b n_b c_b, Value.slice B_b m_b d_b] 28) = w4 at *
  obtain ⟨q_b, eg⟩ : ∃ g, g = w3.heap.size := ⟨_, rfl⟩
  rw [← eg] at h_rb ⊢
  clear eg
  refine (litParse_c ⟨#[49, 101, 57, 48, 48]⟩ (by decide) _ HTab.out _ _ gW3).mono ?_
  rintro e w5 ⟨A_c, n_c, c_c, B_c, m_c, d_c, rfl, h_c, bn⟩
  replace h_a := h_a.below bn
  replace h_ra := h_ra.below bn
  replace h_b := h_b.below bn
  replace h_rb := h_rb.below bn
  replace HTab := Lib.hid (HTab.out.below bn)
  replace bw := below_two bw bn
  clear bn
  have h_rc := row3_new w5 28 (.bool (sg (oTop none))) (.slice A_c n_c c_c) (.slice B_c m_c d_c)
  have bn := below_new w5 (.cells #[Value.bool (sg (oTop none)), Value.slice A_c n_c c_c, Value.slice B_c m_c d_c] 28)
  replace h_a := h_a.below bn
  replace h_ra := h_ra.below bn
  replace h_b := h_b.below bn
  replace h_rb := h_rb.below bn
  replace h_c := h_c.below bn
  replace HTab := Lib.hid (HTab.out.below bn)
  replace bw := below_two bw bn
  clear bn
  go_wp2
  generalize w5.alloc (.cells #[Value.bool (sg (oTop none)), Value.slice A_c n_c c_c, Value.slice B_c m_c d_c] 28) = w6 at *
  obtain ⟨q_c, eg⟩ : ∃ g, g = w5.heap.size := ⟨_, rfl⟩
  rw [← eg] at h_rc ⊢
  clear eg
  generalize w6 = wS at *
  refine region_freeg 34 1 [19, 20, 21, 22, 23, 24, 25, 26, 27, 28, 29, 30, 31, 32, 33, 34, 35, 36, 37, 38, 39, 40, 41, 42, 43, 44, 45, 46, 47, 48, 49, 50, 51, 52] ?aF16 (fun wx => Below wS.heap.size wS wx) (fun k vv wx => match k with
      | 0 => vv = .int .i64 0
      | 1 => vv = .bool true
      | 2 => vv = .bool true
      | 3 => vv = .agg #[.bool (sg (oTop (some gwA))), .slice A_a n_a c_a, .slice B_a m_a d_a]
      | 4 => ∃ (e0 : Option Addr) (e1 : Nat) (e2 : Nat) (e3 : Option Addr) (e4 : Nat) (e5 : Nat), vv = .agg #[.bool (sg (oTop (some gwA))), .slice e0 e1 e2, .slice e3 e4 e5] ∧ QT wx e0 e1 e2 e3 e4 e5 (some gwA)
      | 5 => vv = .bool true
      | 6 => vv = .bool true
      | 7 => vv = .bool true
      | 8 => vv = .int .i64 12
      | 9 => vv = .bool true
      | 10 => vv = .bool true
      | 11 => vv = .bool true
      | 12 => vv = .int .i64 2
      | 13 => vv = .bool true
      | 14 => vv = .bool true
      | 15 => vv = .bool true
      | 16 => vv = .int .i64 (7 : Int)
      | 17 => vv = .bool true
      | 18 => vv = .bool true
      | 19 => vv = .bool true
      | 20 => vv = .int .i64 (1 : Int)
      | 21 => vv = .bool true
      | 22 => vv = .bool true
      | 23 => vv = .bool true
      | 24 => vv = .int .i64 (0 : Int)
      | 25 => vv = .bool true
      | 26 => vv = .bool true
      | 27 => vv = .bool true
      | 28 => vv = .bool true
      | 29 => vv = .bool true
      | 30 => vv = .bool true
      | 31 => vv = .bool false
      | 32 => vv = .bool true
      | _ => vv = .bool true)
    (fun k => false) (by kernel_rfl) ?haF16 rfl (by kernel_rfl) (by kernel_rfl) (fun _ _ _ _ _ h => h) ?hSb16 ?hPb16 ?hS16 ?hop16 ?hfin16
  case haF16 =>
    intro vals
    simp only [fillAll, List.getElem?_cons_zero, List.getElem?_cons_succ, Act.put, List.setIfInBounds_toArray, List.set_cons_zero, List.set_cons_succ]
    exact rfl
  case hSb16 => exact fun wx w2 hb hS => below_two hS hb
  case hPb16 =>
    intro k v wa wb hb h
    match k, h with
    | 0, h => exact h
    | 1, h => exact h
    | 2, h => exact h
    | 3, h => exact h
    | 4, ⟨e0, e1, e2, e3, e4, e5, h1, g0⟩ => exact ⟨e0, e1, e2, e3, e4, e5, h1, g0.below hb⟩
    | 5, h => exact h
    | 6, h => exact h
    | 7, h => exact h
    | 8, h => exact h
    | 9, h => exact h
    | 10, h => exact h
    | 11, h => exact h
    | 12, h => exact h
    | 13, h => exact h
    | 14, h => exact h
    | 15, h => exact h
    | 16, h => exact h
    | 17, h => exact h
    | 18, h => exact h
    | 19, h => exact h
    | 20, h => exact h
    | 21, h => exact h
    | 22, h => exact h
    | 23, h => exact h
    | 24, h => exact h
    | 25, h => exact h
    | 26, h => exact h
    | 27, h => exact h
    | 28, h => exact h
    | 29, h => exact h
    | 30, h => exact h
    | 31, h => exact h
    | 32, h => exact h
    | _ + 33, h => exact h
  case hS16 => exact (Below.refl _ _).drew
  case hop16 =>
    refine .cons (k := 0) (.plain rfl ?_) (.cons (k := 1) (.plain rfl ?_) (.cons (k := 2) (.plain rfl ?_) (.cons (k := 3) (.yes (fun vals wr hS hd g b e => by cases e; exact hd 2 (by decide +kernel)) ?_) (.cons (k := 4) (.yes (fun vals wr hS hd g b e => by cases e; exact hd 2 (by decide +kernel)) ?_) (.cons (k := 5) (.yes (fun vals wr hS hd g b e => by cases e; exact hd 2 (by decide +kernel)) ?_) (.cons (k := 6) (.plain rfl ?_) (.cons (k := 7) (.plain rfl ?_) (.cons (k := 8) (.yes (fun vals wr hS hd g b e => by cases e; exact hd 7 (by decide +kernel)) ?_) (.cons (k := 9) (.yes (fun vals wr hS hd g b e => by cases e; exact hd 7 (by decide +kernel)) ?_) (.cons (k := 10) (.plain rfl ?_) (.cons (k := 11) (.plain rfl ?_) (.cons (k := 12) (.yes (fun vals wr hS hd g b e => by cases e; exact hd 11 (by decide +kernel)) ?_) (.cons (k := 13) (.yes (fun vals wr hS hd g b e => by cases e; exact hd 11 (by decide +kernel)) ?_) (.cons (k := 14) (.plain rfl ?_) (.cons (k := 15) (.plain rfl ?_) (.cons (k := 16) (.yes (fun vals wr hS hd g b e => by cases e; exact hd 15 (by decide +kernel)) ?_) (.cons (k := 17) (.yes (fun vals wr hS hd g b e => by cases e; exact hd 15 (by decide +kernel)) ?_) (.cons (k := 18) (.plain rfl ?_) (.cons (k := 19) (.plain rfl ?_) (.cons (k := 20) (.yes (fun vals wr hS hd g b e => by cases e; exact hd 19 (by decide +kernel)) ?_) (.cons (k := 21) (.yes (fun vals wr hS hd g b e => by cases e; exact hd 19 (by decide +kernel)) ?_) (.cons (k := 22) (.plain rfl ?_) (.cons (k := 23) (.plain rfl ?_) (.cons (k := 24) (.yes (fun vals wr hS hd g b e => by cases e; exact hd 23 (by decide +kernel)) ?_) (.cons (k := 25) (.yes (fun vals wr hS hd g b e => by cases e; exact hd 23 (by decide +kernel)) ?_) (.cons (k := 26) (.plain rfl ?_) (.cons (k := 27) (.plain rfl ?_) (.cons (k := 28) (.yes (fun vals wr hS hd g b e => by cases e; exact hd 27 (by decide +kernel)) ?_) (.cons (k := 29) (.plain rfl ?_) (.cons (k := 30) (.plain rfl ?_) (.cons (k := 31) (.yes (fun vals wr hS hd g b e => by cases e; exact hd 30 (by decide +kernel)) ?_) (.cons (k := 32) (.yes (fun vals wr hS hd g b e => by cases e; exact hd 30 (by decide +kernel)) ?_) (.cons (k := 33) (.plain rfl ?_) (.nil))))))))))))))))))))))))))))))))))
    all_goals intro vals wr hS hd KC hK
    all_goals (show Oper.wp _ _ _ _ _ _; dsimp only)
    · go_simp
      refine hK _ _ rfl (Below.refl _ _) (by first | rfl | simp) (fun h => by cases h)
    · have d0 : vals 0 = _ := hd 0 (by decide +kernel)
      rw [d0]
      go_simp
      refine hK _ _ rfl (Below.refl _ _) (by first | rfl | simp) (fun h => by cases h)
    · have d1 : vals 1 = _ := hd 1 (by decide +kernel)
      rw [d1]
      go_simp
      refine hK _ _ rfl (Below.refl _ _) (by first | rfl | simp) (fun h => by cases h)
    · have z0 := (h_ra.below hS).c0
      have z1 := (h_ra.below hS).c1
      have z2 := (h_ra.below hS).c2
      go_simp
      refine hK _ _ rfl (Below.refl _ _) (by first | rfl | simp) (fun h => by cases h)
    · go_simp
      go_at_call 20
      with_reducible refine (by_c 5 4 (by decide) (by decide) (by decide) (by decide) _ gW4 _).mono ?_
      rintro e w2 ⟨r0, r1, r2, r3, r4, r5, rfl, f0, bn_r⟩
      refine hK _ _ rfl bn_r ⟨_, _, _, _, _, _, rfl, f0⟩ (fun h => by cases h)
    · have d3 : vals 3 = _ := hd 3 (by decide +kernel)
      obtain ⟨A_4_0, n_4_1, n_4_2, A_4_3, n_4_4, n_4_5, d4, h_4_0⟩ := hd 4 (by decide +kernel)
      rw [d3, d4]
      go_simp
      go_at_call 14
      with_reducible refine (keepRat_c (h_a.below hS) h_4_0 (by decide) (by decide) true (keepQ rfl)).mono ?_
      rintro e w2 ⟨rfl, bn_r⟩
      refine hK _ _ rfl bn_r rfl (fun h => by cases h)
    · have d2 : vals 2 = _ := hd 2 (by decide +kernel)
      have d5 : vals 5 = _ := hd 5 (by decide +kernel)
      rw [d2, d5]
      go_simp
      refine hK _ _ rfl (Below.refl _ _) (by first | rfl | simp) (fun h => by cases h)
    · have d6 : vals 6 = _ := hd 6 (by decide +kernel)
      rw [d6]
      go_simp
      refine hK _ _ rfl (Below.refl _ _) (by first | rfl | simp) (fun h => by cases h)
    · go_simp
      refine hK _ _ rfl (Below.refl _ _) (by first | rfl | simp) (fun h => by cases h)
    · have d8 : vals 8 = _ := hd 8 (by decide +kernel)
      rw [d8]
      go_simp
      refine hK _ _ rfl (Below.refl _ _) (by first | rfl | simp) (fun h => by cases h)
    · have d7 : vals 7 = _ := hd 7 (by decide +kernel)
      have d9 : vals 9 = _ := hd 9 (by decide +kernel)
      rw [d7, d9]
      go_simp
      refine hK _ _ rfl (Below.refl _ _) (by first | rfl | simp) (fun h => by cases h)
    · have d10 : vals 10 = _ := hd 10 (by decide +kernel)
      rw [d10]
      go_simp
      refine hK _ _ rfl (Below.refl _ _) (by first | rfl | simp) (fun h => by cases h)
    · go_simp
      refine hK _ _ rfl (Below.refl _ _) (by first | rfl | simp) (fun h => by cases h)
    · have d12 : vals 12 = _ := hd 12 (by decide +kernel)
      rw [d12]
      go_simp
      refine hK _ _ rfl (Below.refl _ _) (by first | rfl | simp) (fun h => by cases h)
    · have d11 : vals 11 = _ := hd 11 (by decide +kernel)
      have d13 : vals 13 = _ := hd 13 (by decide +kernel)
      rw [d11, d13]
      go_simp
      refine hK _ _ rfl (Below.refl _ _) (by first | rfl | simp) (fun h => by cases h)
    · have d14 : vals 14 = _ := hd 14 (by decide +kernel)
      rw [d14]
      go_simp
      refine hK _ _ rfl (Below.refl _ _) (by first | rfl | simp) (fun h => by cases h)
    · go_simp
      go_at_call 12
      with_reducible refine (litLength_c ⟨#[49, 46, 53, 101, 50, 51, 52, 53, 120]⟩ (by decide) _ (HTab.out.below hS) 7 gL1).mono ?_
      rintro e w2 ⟨rfl, bn_r⟩
      refine hK _ _ rfl bn_r rfl (fun h => by cases h)
    · have d16 : vals 16 = _ := hd 16 (by decide +kernel)
      rw [d16]
      go_simp
      refine hK _ _ rfl (Below.refl _ _) (by first | rfl | simp) (fun h => by cases h)
    · have d15 : vals 15 = _ := hd 15 (by decide +kernel)
      have d17 : vals 17 = _ := hd 17 (by decide +kernel)
      rw [d15, d17]
      go_simp
      refine hK _ _ rfl (Below.refl _ _) (by first | rfl | simp) (fun h => by cases h)
    · have d18 : vals 18 = _ := hd 18 (by decide +kernel)
      rw [d18]
      go_simp
      refine hK _ _ rfl (Below.refl _ _) (by first | rfl | simp) (fun h => by cases h)
    · go_simp
      go_at_call 12
      with_reducible refine (litLength_c ⟨#[49, 46, 101, 50]⟩ (by decide) _ (HTab.out.below hS) 1 gL2).mono ?_
      rintro e w2 ⟨rfl, bn_r⟩
      refine hK _ _ rfl bn_r rfl (fun h => by cases h)
    · have d20 : vals 20 = _ := hd 20 (by decide +kernel)
      rw [d20]
      go_simp
      refine hK _ _ rfl (Below.refl _ _) (by first | rfl | simp) (fun h => by cases h)
    · have d19 : vals 19 = _ := hd 19 (by decide +kernel)
      have d21 : vals 21 = _ := hd 21 (by decide +kernel)
      rw [d19, d21]
      go_simp
      refine hK _ _ rfl (Below.refl _ _) (by first | rfl | simp) (fun h => by cases h)
    · have d22 : vals 22 = _ := hd 22 (by decide +kernel)
      rw [d22]
      go_simp
      refine hK _ _ rfl (Below.refl _ _) (by first | rfl | simp) (fun h => by cases h)
    · go_simp
      go_at_call 12
      with_reducible refine (litLength_c ⟨#[120]⟩ (by decide) _ (HTab.out.below hS) 0 gL3).mono ?_
      rintro e w2 ⟨rfl, bn_r⟩
      refine hK _ _ rfl bn_r rfl (fun h => by cases h)
    · have d24 : vals 24 = _ := hd 24 (by decide +kernel)
      rw [d24]
      go_simp
      refine hK _ _ rfl (Below.refl _ _) (by first | rfl | simp) (fun h => by cases h)
    · have d23 : vals 23 = _ := hd 23 (by decide +kernel)
      have d25 : vals 25 = _ := hd 25 (by decide +kernel)
      rw [d23, d25]
      go_simp
      refine hK _ _ rfl (Below.refl _ _) (by first | rfl | simp) (fun h => by cases h)
    · have d26 : vals 26 = _ := hd 26 (by decide +kernel)
      rw [d26]
      go_simp
      refine hK _ _ rfl (Below.refl _ _) (by first | rfl | simp) (fun h => by cases h)
    · go_simp
      go_at_call 10
      with_reducible refine (litGood_c ⟨#[48, 48, 55]⟩ (by decide) _ (HTab.out.below hS) true gG1).mono ?_
      rintro e w2 ⟨rfl, bn_r⟩
      refine hK _ _ rfl bn_r rfl (fun h => by cases h)
    · have d27 : vals 27 = _ := hd 27 (by decide +kernel)
      have d28 : vals 28 = _ := hd 28 (by decide +kernel)
      rw [d27, d28]
      go_simp
      refine hK _ _ rfl (Below.refl _ _) (by first | rfl | simp) (fun h => by cases h)
    · have d29 : vals 29 = _ := hd 29 (by decide +kernel)
      rw [d29]
      go_simp
      refine hK _ _ rfl (Below.refl _ _) (by first | rfl | simp) (fun h => by cases h)
    · go_simp
      go_at_call 10
      with_reducible refine (litGood_c ⟨#[45, 49]⟩ (by decide) _ (HTab.out.below hS) false gG2).mono ?_
      rintro e w2 ⟨rfl, bn_r⟩
      refine hK _ _ rfl bn_r rfl (fun h => by cases h)
    · have d31 : vals 31 = _ := hd 31 (by decide +kernel)
      rw [d31]
      go_simp
      refine hK _ _ rfl (Below.refl _ _) (by first | rfl | simp) (fun h => by cases h)
    · have d30 : vals 30 = _ := hd 30 (by decide +kernel)
      have d32 : vals 32 = _ := hd 32 (by decide +kernel)
      rw [d30, d32]
      go_simp
      refine hK _ _ rfl (Below.refl _ _) (by first | rfl | simp) (fun h => by cases h)
  case hfin16 =>
    intro vals wr hS hP hne
    have ez_33 : vals 33 = _ := hP 33 (by decide)
    have HB := Lib.hid (below_two bw hS)
    try dsimp only
    rw [ez_33]
    refine wpAny_ready (rs := [34]) (by kernel_rfl) (by simp) (AllReady.cons rfl (fun KC hK => ?_) AllReady.nil)
    go_simp
    refine hK _ _ ?_
    clear hK KC
    refine wpAny_done (by kernel_rfl) ?_ _
    go_wp2
    go_ret
    exact ⟨rfl, HB.out⟩

end Go.Proofs.YtjpoolddgocbbaaGreatDoor
