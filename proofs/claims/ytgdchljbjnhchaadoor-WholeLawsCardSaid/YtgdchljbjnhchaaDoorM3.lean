/- Part 3 of the texts that the statements of this seat lean on: mathematics, and what functions answer, as contracts over memory; each part says its own conditions. -/
import Derived.Test.YtgdchljbjnhchaaDoorM2
import Derived.Test.YtgdchljbjnhchaaDoorShelf
import Derived.Orders
import Derived.Below
import Derived.Deep.RegionWith
/- What package digits' Parse and Ten answer, as contracts over memory, where its table of powers of ten reads as it is laid. Condition: the table (Tab). -/
namespace Go.Proofs.YtgdchljbjnhchaaDoor
open Go.RowKit Limb
set_option linter.unusedVariables false

theorem bytesOf_extract (s : ByteArray) (i j : Nat) : bytesOf (s.extract i j) = ((bytesOf s).drop i).take (j - i) := by
  unfold bytesOf
  rw [ByteArray.data_extract, Array.toList_extract, List.extract_eq_take_drop, List.map_take, List.map_drop]

/-- What the library's reader answers of at most nine bytes: a number, or none, with an error. -/
def Red (l : List Nat) (v : Nat) (e : Value) : Prop := (allDig l = true ∧ v = decV l ∧ e = .nilIface) ∨ (allDig l = false ∧ ∃ t p, e = .iface t p)

theorem readUint_yes (s : ByteArray) (w : World) (h0 : 1 ≤ s.size) (h9 : s.size ≤ 9) (h : allDig (bytesOf s) = true) (v : Nat) (hv : decV (bytesOf s) = v) :
    Calls Tryd.prog 41 #[.string s, .int .i64 10, .int .i64 32] w fun e w' => e = .returned (.tuple #[.int .u64 (v : Int), .nilIface]) ∧ Below w.heap.size w w' := by
  have hl : (s.data.toList : List UInt8) ≠ [] := by
    intro e
    have : s.size = 0 := by show s.data.size = 0; rw [← Array.length_toList, e]; rfl
    omega
  have hs : s.data.toList.length = s.size := Array.length_toList
  have hp := parseB_yes hl (by rw [hs]; exact h9) h
  refine (Any.strconv_ParseUint_10_at32_ok Tryd.laysPu14 s (by omega) (decV (bytesOf s)) hp w).mono ?_
  rintro e w' ⟨rfl, hW⟩
  rw [hv]
  refine ⟨rfl, ?_⟩
  rcases hW with rfl | rfl
  · exact Below.refl _ _
  · exact Lib.bytesWorld_below _ _ _

theorem readUint_no (s : ByteArray) (w : World) (T : Tab w) (h9 : s.size ≤ 9) (h : allDig (bytesOf s) = false) :
    Calls Tryd.prog 41 #[.string s, .int .i64 10, .int .i64 32] w fun e w' => ∃ t p, e = .returned (.tuple #[.int .u64 0, .iface t (.pointer (some p))]) ∧ Below w.heap.size w w' := by
  have hs : s.data.toList.length = s.size := Array.length_toList
  have hp := parseB_no (l := s.data.toList) (by rw [hs]; exact h9) h
  obtain ⟨te, pe, he⟩ := T.2
  refine (Any.strconv_ParseUint_10_at32_syntax Tryd.laysPu14 s (by omega) hp _ w he (.inr ⟨te, pe, rfl⟩)).mono ?_
  rintro e w' ⟨N, rfl, _, _, hb⟩
  exact ⟨_, _, rfl, hb⟩

theorem ten_limb {k : Nat} (h : k ≤ 9) : 10 ^ k < 4294967296 := Nat.lt_of_le_of_lt (Nat.pow_le_pow_right (by decide) h) (by decide)

theorem powV_tens {m : Nat} (h : m ≤ 222) : powV 1000000000 (m : Int) = some (1000000000 ^ m) := by
  refine powV_small ?_ fun k hk => ?_
  · exact blen_le (by exact Nat.lt_of_le_of_lt h (by decide))
  · rw [show (1000000000 : Nat) = 10 ^ 9 from rfl, ← Nat.pow_mul]
    exact dec_room_lt (by omega)

/-- How long a text is. -/
def strLen (v : Value) : Nat := match v with
  | .string s => s.size
  | _ => 0

theorem numOk_part {l : List Nat} {i k : Nat} (h : allDig ((l.drop i).take k) = false) : numOk l = false := by
  have h2 : allDig l = false := by
    rw [Bool.eq_false_iff]
    intro h3
    have h4 : allDig ((l.drop i).take k) = true := allDig_iff.2 fun x hx => allDig_iff.1 h3 x (List.mem_of_mem_drop (List.mem_of_mem_take hx))
    rw [h] at h4; cases h4
  unfold numOk
  rw [h2]; simp

set_option maxHeartbeats 4000000 in
set_option maxRecDepth 4000 in
theorem digParse_c (s : ByteArray) (w : World) (T : Tab w) (v : Bool) (hv : numOk (bytesOf s) = v) (m : Nat) (hm : numV (bytesOf s) = m) :
    Calls Tryd.prog 29 #[.string s] w fun e w' => ∃ A1 n1 c1, e = .returned (.tuple #[.slice A1 n1 c1, .bool v]) ∧ NN w' A1 n1 c1 (limbs m) m 223 ∧ Below w.heap.size w w' := by
  have HT := Lib.hid T
  have HV := Lib.hid hv
  have HM := Lib.hid hm
  have hl := length_bytesOf s
  have HL := Lib.hid hl
  clear T hv hm hl
  by_cases h0 : s.size = 0 ∨ 2000 < s.size
  · have hno : numOk (bytesOf s) = false := numOk_len (by rw [HL.out]; exact h0)
    have hr : RowKit.Hid (v = false ∧ limbs m = [] ∧ m = 0) := by
      have h3 : m = 0 := by rw [← HM.out]; exact numV_no hno
      exact ⟨by rw [← HV.out, hno], by rw [h3]; exact limbs_zero, h3⟩
    clear hno
    rcases h0 with h0 | h0
    · have h00 : ((s.size : Int) == 0) = true := by rw [beq_iff_eq]; omega
      go_enter Tryd.func29, Tryd.ntmps29
      go_wp2
      go_ret2
      obtain ⟨rfl, h4, h5⟩ := hr.out
      exact ⟨none, 0, 0, rfl, by rw [h4, h5]; exact ⟨IsN.nil _ _, rfl, Nat.le_refl _, Nat.zero_le _⟩, Below.refl _ _⟩
    · have h00 : ((s.size : Int) == 0) = false := by rw [beq_eq_false_iff_ne]; omega
      have h01 : (2000 : Int) < (s.size : Int) := by omega
      go_enter Tryd.func29, Tryd.ntmps29
      go_wp2
      go_ret2
      obtain ⟨rfl, h4, h5⟩ := hr.out
      exact ⟨none, 0, 0, rfl, by rw [h4, h5]; exact ⟨IsN.nil _ _, rfl, Nat.le_refl _, Nat.zero_le _⟩, Below.refl _ _⟩
  · have h1 : 1 ≤ s.size := by omega
    have h2 : s.size ≤ 2000 := by omega
    have h00 : ((s.size : Int) == 0) = false := by rw [beq_eq_false_iff_ne]; omega
    have h01 : (s.size : Int) ≤ 2000 := by omega
    have HP := Lib.hid (PInv.start (bytesOf s))
    clear h0
    go_enter Tryd.func29, Tryd.ntmps29
    have HN : RowKit.Hid (NN w none 0 0 (limbs 0) 0 223) := ⟨by rw [limbs_zero]; exact IsN.nil _ _, by rw [limbs_zero]; rfl, Nat.le_refl _, Nat.zero_le _⟩
    have HW := Lib.hid (Below.refl w.heap.size w)
    go_wp2
    go_loopw [0, 4] (fun sv ov wr => ∃ (i t : Nat) (S : ByteArray) (A1 : Option Addr) (n1 c1 : Nat), sv = .string S ∧ ov = .slice A1 n1 c1 ∧ RowKit.Hid (bytesOf S = (bytesOf s).drop i ∧ S.size + i = s.size) ∧ RowKit.Hid (PInv (bytesOf s) i t) ∧ RowKit.Hid (NN wr A1 n1 c1 (limbs t) t 223) ∧ RowKit.Hid (Below w.heap.size w wr)) (fun sv _ _ => strLen sv)
    case atStart => exact ⟨0, 0, s, none, 0, 0, rfl, rfl, ⟨rfl, rfl⟩, HP, HN, HW⟩
    case round =>
      clear HP HN HW
      obtain ⟨i, t, S, A1, n1, c1, rfl, rfl, HS, HP, HN, HW⟩ := hrel
      by_cases hS : S.size = 0
      · have hS0 : ¬ (0 : Int) < (S.size : Int) := by omega
        have hi : i = (bytesOf s).length := by rw [HL.out]; have := HS.out.2; omega
        have hp := HP.out
        unfold PInv at hp
        rw [hi, List.take_length] at hp
        have hok : numOk (bytesOf s) = true := numOk_good (by rw [HL.out]; exact h1) (by rw [HL.out]; exact h2) hp.1
        have hr : RowKit.Hid (v = true ∧ t = m) := ⟨by rw [← HV.out, hok], by rw [hp.2, ← HM.out, numV_yes hok]⟩
        clear hi hp hok
        go_wp2
        go_ret2
        obtain ⟨rfl, rfl⟩ := hr.out
        exact ⟨_, _, _, rfl, HN.out, HW.out⟩
      · have hS0 : (0 : Int) < (S.size : Int) := by omega
        obtain ⟨k, hk⟩ : ∃ k, k = min S.size 9 := ⟨_, rfl⟩
        have ek : min (S.size : Int) 9 = (k : Int) := by omega
        have hk1 : 1 ≤ k := by omega
        have hk9 : k ≤ 9 := by omega
        have hkS : k ≤ S.size := by omega
        obtain ⟨G, hG⟩ : ∃ G, S.extract 0 k = G := ⟨_, rfl⟩
        have hb : bytesOf G = ((bytesOf s).drop i).take k := by rw [← hG, bytesOf_extract, HS.out.1]; rfl
        have hGs : G.size = k := by
          rw [← length_bytesOf, hb, List.length_take, List.length_drop, HL.out]
          have := HS.out.2
          omega
        have HG := Lib.hid hb
        clear hb hk
        by_cases hd : allDig (bytesOf G) = true
        · obtain ⟨d, hdv⟩ : ∃ d, decV (bytesOf G) = d := ⟨_, rfl⟩
          have HC := Lib.hid (readUint_yes G wr (by omega) (by omega) hd d hdv)
          have hst := Limb.PInv.group HP.out (m := k) (by rw [HL.out]; have := HS.out.2; omega) (by rw [← HG.out]; exact hd)
          rw [← HG.out, hdv] at hst
          have hlt := hst.lt (by rw [HL.out]; exact h2)
          have hdl : d < 1000000000 := by
            rw [← hdv]
            have h3 := decV_lt hd
            rw [length_bytesOf, hGs] at h3
            exact Nat.lt_of_lt_of_le h3 (Nat.pow_le_pow_right (by decide) hk9)
          obtain ⟨p, hp⟩ : ∃ p, p = 10 ^ k := ⟨_, rfl⟩
          have hpl : p < 4294967296 := by rw [hp]; exact ten_limb hk9
          rw [← hp] at hst hlt
          have Hp := Lib.hid hp
          have HT2 := Lib.hid hst
          have Hlt := Lib.hid hlt
          obtain ⟨S2, hS2⟩ : ∃ S2, S.extract k S.size = S2 := ⟨_, rfl⟩
          have HS2 : RowKit.Hid (bytesOf S2 = (bytesOf s).drop (i + k) ∧ S2.size + (i + k) = s.size) := by
            have h3 : bytesOf S2 = (bytesOf s).drop (i + k) := by
              rw [← hS2, bytesOf_extract, HS.out.1, List.drop_drop]
              refine List.take_of_length_le ?_
              rw [List.length_drop, HL.out]
              have := HS.out.2
              omega
            refine ⟨h3, ?_⟩
            rw [← length_bytesOf, h3, List.length_drop, HL.out]
            have := HS.out.2
            omega
          have hS2l : S2.size < S.size := by have h3 := HS2.out.2; have h4 := HS.out.2; omega
          have HS2l := Lib.hid hS2l
          clear hd hdv hst hlt hp hS2l
          go_wp2_with fail
          refine HC.out.mono ?_
          rintro e w2 ⟨rfl, bn⟩
          have HN2 := Lib.hid (HN.out.below bn)
          have HW2 := Lib.hid (below_two HW.out bn)
          have hcell : w2.cell? ⟨0, k, none⟩ = some (.int .u32 (p : Int)) := by rw [Hp.out]; exact (HT.out.below HW2.out).1 k (by omega)
          clear bn HC HN HW
          go_wp2_with fail
          refine (mulSmall_c HN2.out p _ rfl hpl (by decide)).mono ?_
          rintro e w3 ⟨A3, n3, c3, rfl, hm, bn⟩
          have HM3 := Lib.hid hm
          have HW3 := Lib.hid (below_two HW2.out bn)
          clear hm bn HN2 HW2 hcell
          go_wp2_with fail
          refine (of_c d _ rfl (by omega) w3).mono ?_
          rintro e w4 ⟨A4, n4, c4, rfl, ho, bn⟩
          have HM4 := Lib.hid (HM3.out.below bn)
          have HO4 := Lib.hid ho
          have HW4 := Lib.hid (below_two HW3.out bn)
          clear ho bn HM3 HW3
          go_wp2_with fail
          refine (add_c HM4.out HO4.out 225 (by decide) (by decide) (by decide)).mono ?_
          rintro e w5 ⟨A5, n5, c5, rfl, hs, bn⟩
          have HN5 := Lib.hid (hs.relax Hlt.out)
          have HW5 := Lib.hid (below_two HW4.out bn)
          clear hs bn HM4 HO4 HW4
          go_wp2
          go_roundw
          case rel => exact ⟨i + k, t * p + d, S2, A5, n5, c5, rfl, rfl, HS2, HT2, HN5, HW5⟩
          case measure => exact HS2l.out
        · have hd2 : allDig (bytesOf G) = false := by simpa using hd
          have hno : numOk (bytesOf s) = false := numOk_part (by rw [← HG.out]; exact hd2)
          have hr : RowKit.Hid (v = false ∧ limbs m = [] ∧ m = 0) := by
            have h3 : m = 0 := by rw [← HM.out]; exact numV_no hno
            exact ⟨by rw [← HV.out, hno], by rw [h3]; exact limbs_zero, h3⟩
          have HC := Lib.hid (readUint_no G wr (HT.out.below HW.out) (by omega) hd2)
          clear hno hd hd2
          go_wp2_with fail
          refine HC.out.mono ?_
          rintro e w2 ⟨tt, p, rfl, bn⟩
          have HW2 := Lib.hid (below_two HW.out bn)
          clear bn HC
          go_wp2
          go_ret2
          obtain ⟨rfl, h4, h5⟩ := hr.out
          exact ⟨none, 0, 0, rfl, by rw [h4, h5]; exact ⟨IsN.nil _ _, rfl, Nat.le_refl _, Nat.zero_le _⟩, HW2.out⟩

end Go.Proofs.YtgdchljbjnhchaaDoor

/- Regions that leave their order open: one law by an invariant over what has come up, whatever the order (no branch for each order). Of any program; no condition. -/
namespace Go.Proofs.YtgdchljbjnhchaaDoor
open Go.RowKit
set_option linter.unusedVariables false

section
variable {P : Program} {ops : Array Oper} {Q : Exit → Act → World → Prop} {md : Region.Mode}

/-- How many of the first m have not come up yet. -/
def left (listed : Array Bool) : Nat → Nat
  | 0 => 0
  | k + 1 => left listed k + (if listed.getD k false = true then 0 else 1)
theorem left_le (listed : Array Bool) : ∀ m, left listed m ≤ m
  | 0 => Nat.le_refl _
  | k + 1 => by have := left_le listed k; unfold left; split <;> omega
theorem left_zero {listed : Array Bool} : ∀ {m}, left listed m = 0 → ∀ k, k < m → listed.getD k false = true
  | 0, _, k, hk => by omega
  | m + 1, h, k, hk => by
    unfold left at h
    split at h
    · rename_i h1
      rcases Nat.lt_or_ge k m with h2 | h2
      · exact left_zero (by omega) k h2
      · obtain rfl : k = m := by omega
        exact h1
    · omega
theorem getD_same {listed : Array Bool} {i : Nat} (h : i < listed.size) (d : Bool) : (listed.setIfInBounds i true).getD i d = true := by
  simp [Array.getD_eq_getD_getElem?, h]
theorem getD_other {listed : Array Bool} {i k : Nat} (h : i ≠ k) (d : Bool) : (listed.setIfInBounds i true).getD k d = listed.getD k d := by
  simp [Array.getD_eq_getD_getElem?, h]
theorem left_same {listed : Array Bool} {i : Nat} : ∀ {m}, m ≤ i → left (listed.setIfInBounds i true) m = left listed m
  | 0, _ => rfl
  | m + 1, h => by
    unfold left
    rw [left_same (by omega), getD_other (by omega)]
theorem left_set {listed : Array Bool} {i : Nat} (hs : i < listed.size) (hi : listed.getD i false = false) : ∀ {m}, i < m → left (listed.setIfInBounds i true) m + 1 = left listed m
  | 0, h => by omega
  | m + 1, h => by
    unfold left
    rcases Nat.lt_or_ge i m with h1 | h1
    · have := left_set hs hi h1
      rw [getD_other (by omega)]
      omega
    · obtain rfl : i = m := by omega
      rw [left_same (Nat.le_refl _), getD_same hs, hi]
      simp

/-- **Whatever order is picked**: an invariant J that each operation that may come up hands on; the last operations (from m on) wait for all others. -/
theorem wpAny_inv (m : Nat) (J : Array Bool → Act → World → Prop)
    (hsize : ∀ l a w, J l a w → l.size = ops.size ∧ ∀ k, m ≤ k → l.getD k false = false)
    (hm : m ≤ ops.size)
    (hback : ∀ (i : Nat) (o : Oper), i < m → ops[i]? = some o → ∀ e ∈ o.after, Region.binds md e = true → e.on < i)
    (hstep : ∀ l a w i, J l a w → i ∈ Region.ready md ops l → i < m → wpOp P ops Q i (fun a' w' => J (l.setIfInBounds i true) a' w') a w)
    (hwait : ∀ l a w i, J l a w → i ∈ Region.ready md ops l → m ≤ i → ∀ k, k < m → l.getD k false = true)
    (hfin : ∀ l a w, J l a w → (∀ k, k < m → l.getD k false = true) → wpAny P md ops Q (ops.size - m) l a w) :
    ∀ (c : Nat) (l : Array Bool) (a : Act) (w : World), left l m = c → J l a w → wpAny P md ops Q (ops.size - m + c) l a w := by
  intro c
  induction c with
  | zero => exact fun l a w hc hj => hfin l a w hj (left_zero hc)
  | succ c ih =>
    intro l a w hc hj
    obtain ⟨hs, hlater⟩ := hsize l a w hj
    have hex : ∃ k, k < m ∧ l.getD k false = false := by
      rcases Classical.em (∃ k, k < m ∧ l.getD k false = false) with h | h
      · exact h
      · exfalso
        have hall : ∀ k, k < m → l.getD k false = true := fun k hk => by
          cases hb : l.getD k false with
          | true => rfl
          | false => exact absurd ⟨k, hk, hb⟩ h
        have hz : ∀ j, j ≤ m → left l j = 0 := fun j => by
          induction j with
          | zero => exact fun _ => rfl
          | succ j ihj => exact fun hj2 => by unfold left; rw [ihj (by omega), hall j (by omega)]; rfl
        have := hz m (Nat.le_refl _)
        omega
    refine ⟨fun hr => ?_, fun i hi => ?_⟩
    · exfalso
      -- the least one that has not come up may come up
      obtain ⟨k0, hk0, hb0⟩ := hex
      have hleast : ∀ n, (∃ k, k ≤ n ∧ k < m ∧ l.getD k false = false) → ∃ k, k < m ∧ l.getD k false = false ∧ ∀ j, j < k → l.getD j false = true := by
        intro n
        induction n with
        | zero =>
          rintro ⟨k, h1, h2, h3⟩
          obtain rfl : k = 0 := by omega
          exact ⟨0, h2, h3, fun j hj2 => by omega⟩
        | succ n ihn =>
          rintro ⟨k, h1, h2, h3⟩
          rcases Classical.em (∃ k, k ≤ n ∧ k < m ∧ l.getD k false = false) with h | h
          · exact ihn h
          · refine ⟨k, h2, h3, fun j hj2 => ?_⟩
            cases hb : l.getD j false with
            | true => rfl
            | false => exact absurd ⟨j, by omega, by omega, hb⟩ h
      obtain ⟨k, hk, hb, hmin⟩ := hleast k0 ⟨k0, Nat.le_refl _, hk0, hb0⟩
      have hko : k < ops.size := by omega
      have : k ∈ Region.ready md ops l := mem_ready.2 ⟨by
        simp only [Array.getD_eq_getD_getElem?] at hb ⊢
        rw [Array.getElem?_eq_getElem (by omega)] at hb ⊢
        simpa using hb, ops[k], Array.getElem?_eq_getElem hko, fun e he hbi => hmin _ (hback k _ hk (Array.getElem?_eq_getElem hko) e he hbi)⟩
      rw [hr] at this
      cases this
    · rcases Nat.lt_or_ge i m with h1 | h1
      · have hu : l.getD i false = false := by
          have h2 := (mem_ready.1 hi).1
          simp only [Array.getD_eq_getD_getElem?] at h2 ⊢
          rw [Array.getElem?_eq_getElem (by omega)] at h2 ⊢
          simpa using h2
        have hl := left_set (m := m) (by omega : i < l.size) hu h1
        exact wpOp_mono (fun a' w' hj2 => ih _ a' w' (by omega) hj2) (hstep l a w i hj hi h1)
      · exfalso
        obtain ⟨k, hk, hb⟩ := hex
        rw [hwait l a w i hj hi h1 k hk] at hb
        cases hb

/-- What an operation waits for. -/
def afters (ops : Array Oper) (i : Nat) : List Nat :=
  match ops[i]? with
  | some o => (o.after.toList.filter (Region.binds .any)).map fun e => e.on
  | none => []
theorem ready_after {l : Array Bool} {i e : Nat} (hi : i ∈ Region.ready .any ops l) (he : e ∈ afters ops i) : l.getD e false = true := by
  obtain ⟨_, o, ho, h⟩ := mem_ready.1 hi
  unfold afters at he
  rw [ho] at he
  obtain ⟨x, hx, rfl⟩ := List.mem_map.1 he
  obtain ⟨h1, h2⟩ := List.mem_filter.1 hx
  exact h x (by simpa using h1) h2
/-- What it waits for, and what that waits for. -/
def anc (ops : Array Oper) : Nat → Nat → List Nat
  | 0, _ => []
  | f + 1, i => afters ops i ++ (afters ops i).flatMap (anc ops f)
theorem anc_up {l : Array Bool} (hd : ∀ k, l.getD k false = true → ∀ e ∈ afters ops k, l.getD e false = true) : ∀ (f i : Nat), (∀ e ∈ afters ops i, l.getD e false = true) → ∀ e ∈ anc ops f i, l.getD e false = true
  | 0, _, _, e, he => by cases he
  | f + 1, i, h, e, he => by
    unfold anc at he
    rcases List.mem_append.1 he with h1 | h1
    · exact h e h1
    · obtain ⟨x, hx, hy⟩ := List.mem_flatMap.1 h1
      exact anc_up hd f x (hd x (h x hx)) e hy

def isPlain : Op → Bool
  | .select _ _ => false
  | _ => true

/-- The frame where what has come up so far has been put. -/
def fill (D : Nat → Option Tmp) (vals : Nat → Value) (l : Array Bool) (a : Act) : Nat → Act
  | 0 => a
  | k + 1 => if l.getD k false = true then (fill D vals l a k).put (D k) (vals k) else fill D vals l a k
/-- The frame where all has been put. -/
def fillAll (D : Nat → Option Tmp) (vals : Nat → Value) (a : Act) : Nat → Act
  | 0 => a
  | k + 1 => (fillAll D vals a k).put (D k) (vals k)
def upd (vals : Nat → Value) (i : Nat) (v : Value) : Nat → Value := fun k => if k = i then v else vals k

theorem put_size (a : Act) (d : Option Tmp) (v : Value) : (a.put d v).tmps.size = a.tmps.size := by
  cases d <;> simp [Act.put]
theorem put_defers2 (a : Act) (d : Option Tmp) (v : Value) : (a.put d v).defers = a.defers := by
  cases d <;> rfl
theorem put_same (a : Act) (d : Tmp) (v : Value) (h : d < a.tmps.size) : (a.put (some d) v).eval (.tmp d) = v := by
  simp [Act.put, Act.eval, Array.getD_eq_getD_getElem?, h]
theorem fill_size (D : Nat → Option Tmp) (vals : Nat → Value) (l : Array Bool) (a : Act) : ∀ m, (fill D vals l a m).tmps.size = a.tmps.size
  | 0 => rfl
  | m + 1 => by unfold fill; split <;> simp [put_size, fill_size]
theorem fillAll_size (D : Nat → Option Tmp) (vals : Nat → Value) (a : Act) : ∀ m, (fillAll D vals a m).tmps.size = a.tmps.size
  | 0 => rfl
  | m + 1 => by simp [fillAll, put_size, fillAll_size]
theorem fill_defers (D : Nat → Option Tmp) (vals : Nat → Value) (l : Array Bool) (a : Act) : ∀ m, (fill D vals l a m).defers = a.defers
  | 0 => rfl
  | m + 1 => by unfold fill; split <;> simp [put_defers2, fill_defers]
theorem fillAll_defers (D : Nat → Option Tmp) (vals : Nat → Value) (a : Act) : ∀ m, (fillAll D vals a m).defers = a.defers
  | 0 => rfl
  | m + 1 => by simp [fillAll, put_defers2, fillAll_defers]
theorem fill_all {D : Nat → Option Tmp} {vals : Nat → Value} {l : Array Bool} {a : Act} : ∀ {m}, (∀ k, k < m → l.getD k false = true) → fill D vals l a m = fillAll D vals a m
  | 0, _ => rfl
  | m + 1, h => by
    unfold fill fillAll
    rw [if_pos (h m (by omega)), fill_all fun k hk => h k (by omega)]
theorem fill_none {D : Nat → Option Tmp} {vals : Nat → Value} {l : Array Bool} {a : Act} : ∀ {m}, (∀ k, k < m → l.getD k false = false) → fill D vals l a m = a
  | 0, _ => rfl
  | m + 1, h => by
    unfold fill
    rw [if_neg (by simp [h m (by omega)]), fill_none fun k hk => h k (by omega)]
theorem fill_congr {D : Nat → Option Tmp} {vals vals' : Nat → Value} {l l' : Array Bool} {a : Act} : ∀ {m}, (∀ k, k < m → l.getD k false = l'.getD k false ∧ vals k = vals' k) → fill D vals l a m = fill D vals' l' a m
  | 0, _ => rfl
  | m + 1, h => by
    obtain ⟨h1, h2⟩ := h m (by omega)
    unfold fill
    rw [h1, h2, fill_congr fun k hk => h k (by omega)]
theorem fill_set {D : Nat → Option Tmp} {vals : Nat → Value} {l : Array Bool} {a : Act} {i : Nat} {v : Value} (hs : i < l.size) (hu : l.getD i false = false) :
    ∀ {m}, i < m → (∀ j, j < m → j ≠ i → ∀ d, D j = some d → D i ≠ some d) → (fill D vals l a m).put (D i) v = fill D (upd vals i v) (l.setIfInBounds i true) a m
  | 0, h, _ => by omega
  | m + 1, h, hd => by
    rcases Nat.lt_or_ge i m with h1 | h1
    · have ih := fill_set (D := D) (vals := vals) (a := a) (v := v) hs hu h1 fun j hj => hd j (by omega)
      unfold fill
      rw [getD_other (by omega : i ≠ m), ← ih, show upd vals i v m = vals m from if_neg (by omega)]
      split
      · exact Act.put_comm _ _ _ (hd m (by omega) (by omega))
      · rfl
    · obtain rfl : i = m := by omega
      unfold fill
      rw [if_neg (by simp [hu]), if_pos (getD_same hs _), show upd vals i v i = v from if_pos rfl]
      rw [fill_congr (vals := vals) (vals' := upd vals i v) (l := l) (l' := l.setIfInBounds i true) fun k hk => ⟨(getD_other (by omega) _).symm, (if_neg (by omega)).symm⟩]
theorem fill_eval {D : Nat → Option Tmp} {vals : Nat → Value} {l : Array Bool} {a : Act} {x : Operand} :
    ∀ {m}, (∀ k, k < m → l.getD k false = false → ∀ d, D k = some d → x ≠ .tmp d) → (fill D vals l a m).eval x = (fillAll D vals a m).eval x
  | 0, _ => rfl
  | m + 1, h => by
    have ih := fill_eval (D := D) (vals := vals) (l := l) (a := a) (x := x) (m := m) fun k hk => h k (by omega)
    unfold fill fillAll
    cases hb : l.getD m false with
    | true =>
      rw [if_pos rfl]
      by_cases hx : ∃ d, D m = some d ∧ x = .tmp d
      · obtain ⟨d, h1, rfl⟩ := hx
        rw [h1]
        simp only [Act.put, Act.eval, Array.getD_eq_getD_getElem?, Array.getElem?_setIfInBounds, fill_size, fillAll_size, if_true]
      · rw [Act.eval_put fun d h1 h2 => hx ⟨d, h1, h2⟩, Act.eval_put fun d h1 h2 => hx ⟨d, h1, h2⟩, ih]
    | false =>
      rw [if_neg (by simp), Act.eval_put (h m (by omega) hb), ih]

/-- What the order-free law asks of operation i (m of them, writing ds, in frames of N). -/
def okAt (ops : Array Oper) (m : Nat) (ds : List Tmp) (N : Nat) (i : Nat) : Bool :=
  match ops[i]? with
  | none => false
  | some o => o.dst == ds[i]? && decide (i < ds.length) && decide (ds.getD i 0 < N) && o.guard.isNone && isPlain o.op && (afters ops i).all (fun e => decide (e < i)) &&
      (List.range m).all (fun k => k == i || ds[k]? != ds[i]?) &&
      o.op.operands.toList.all (fun x => match x with
        | .tmp t => (List.range m).all fun k => ds[k]? != some t || (afters ops i).contains k
        | _ => true)
theorem okAt_spec {m : Nat} {ds : List Tmp} {N i : Nat} (h : okAt ops m ds N i = true) :
    ∃ o, ops[i]? = some o ∧ o.dst = some (ds.getD i 0) ∧ ds[i]? = some (ds.getD i 0) ∧ ds.getD i 0 < N ∧ o.guard = none ∧ (∀ cs b, o.op ≠ .select cs b) ∧ (∀ e ∈ afters ops i, e < i) ∧
      (∀ k, k < m → k ≠ i → ds[k]? ≠ ds[i]?) ∧ (∀ x ∈ o.op.operands, ∀ t, x = .tmp t → ∀ k, k < m → ds[k]? = some t → k ∈ afters ops i) := by
  unfold okAt at h
  cases ho : ops[i]? with
  | none => rw [ho] at h; cases h
  | some o =>
    rw [ho] at h
    simp only [Bool.and_eq_true, beq_iff_eq, decide_eq_true_eq, List.all_eq_true, Bool.or_eq_true, bne_iff_ne, List.mem_range, Option.isNone_iff_eq_none] at h
    obtain ⟨⟨⟨⟨⟨⟨⟨h1, h2⟩, h3⟩, h4⟩, h5⟩, h6⟩, h7⟩, h8⟩ := h
    have hi : ds[i]? = some (ds.getD i 0) := by simp [List.getD_eq_getElem?_getD, h2]
    refine ⟨o, rfl, h1.trans hi, hi, h3, h4, ?_, h6, fun k hk hne => (h7 k hk).resolve_left hne, ?_⟩
    · intro cs b he
      rw [he] at h5
      cases h5
    · rintro x hx t rfl k hk hd
      have := h8 _ (by simpa using hx)
      simp only [List.all_eq_true, List.mem_range, Bool.or_eq_true, bne_iff_ne, List.contains_iff_mem] at this
      exact (this k hk).resolve_left fun h => h hd

/-- Step i of the order-free law: run in the frame where all has been put (what has not come up yet is not looked at). -/
def FreeStep (P : Program) (Q : Exit → Act → World → Prop) (ops : Array Oper) (ds : List Tmp) (aF : (Nat → Value) → Act) (S : World → Prop) (Φ : Nat → Value → World → Prop) (fresh : Nat → Bool) (i : Nat) (o : Oper) : Prop :=
  ∀ (vals : Nat → Value) (w : World), S w → (∀ e ∈ afters ops i, Φ e (vals e) w) → ∀ K : Act → World → Prop,
    (∀ a' w', a'.defers = (aF vals).defers → Below w.heap.size w w' → Φ i (a'.eval (.tmp (ds.getD i 0))) w' → (fresh i = true → ∃ q, a'.eval (.tmp (ds.getD i 0)) = .pointer (some ⟨q, 0, none⟩) ∧ w.heap.size ≤ q ∧ q < w'.heap.size) → K a' w') →
    o.wp P (aF vals) w K Q

/-- One step each. -/
def AllAt (F : Nat → Oper → Prop) : Nat → List Oper → Nat → Prop
  | _, _, 0 => True
  | _, [], _ + 1 => True
  | k, o :: os, n + 1 => F k o ∧ AllAt F (k + 1) os n
theorem AllAt.nil {F : Nat → Oper → Prop} {k : Nat} {os : List Oper} : AllAt F k os 0 := by unfold AllAt; trivial
theorem AllAt.cons {F : Nat → Oper → Prop} {k n : Nat} {o : Oper} {os : List Oper} (h : F k o) (t : AllAt F (k + 1) os n) : AllAt F k (o :: os) (n + 1) := ⟨h, t⟩
theorem AllAt.at {F : Nat → Oper → Prop} : ∀ {k : Nat} {os : List Oper} {n : Nat}, AllAt F k os n → ∀ i, i < n → ∀ o, os[i]? = some o → F (k + i) o
  | _, _, 0, _, i, h, _, _ => by omega
  | _, [], _ + 1, _, i, _, o, ho => by cases i <;> cases ho
  | k, x :: xs, n + 1, h, 0, _, o, ho => by
    obtain rfl : x = o := by simpa using ho
    exact h.1
  | k, x :: xs, n + 1, h, i + 1, hi, o, ho => by
    have := AllAt.at h.2 i (by omega) o (by simpa using ho)
    rwa [show k + 1 + i = k + (i + 1) by omega] at this
/-- What has come up: the first m of n. -/
def firsts (n m : Nat) : Array Bool := ((List.range n).map fun k => decide (k < m)).toArray
theorem firsts_eq {l : Array Bool} {n m : Nat} (hs : l.size = n) (hm : m ≤ n) (h : ∀ k, l.getD k false = decide (k < m)) : l = firsts n m := by
  apply Array.ext_getElem?
  intro k
  have := h k
  rw [show (firsts n m)[k]? = ((List.range n).map fun k => decide (k < m))[k]? from List.getElem?_toArray .., List.getElem?_map]
  rcases Nat.lt_or_ge k n with hk | hk
  · rw [List.getElem?_range hk, Array.getElem?_eq_getElem (by omega)]
    simp only [Array.getD_eq_getD_getElem?, Array.getElem?_eq_getElem (show k < l.size by omega), Option.getD_some] at this
    simp [this]
  · rw [Array.getElem?_eq_none (by omega), List.getElem?_eq_none (by simpa using hk)]
    rfl

/-- **The order-free law**: of a region that draws its order, the first m operations (no guards) in whatever order: each meets its own condition in its own world; what it has shown stays (Below). -/
theorem region_free {id : Nat} {a : Act} {w : World} {os : List Oper} (m r : Nat) (ds : List Tmp) (aF : (Nat → Value) → Act) (S : World → Prop) (Φ : Nat → Value → World → Prop) (fresh : Nat → Bool)
    (hm : P.follows .mixedOrders = true)
    (haF : ∀ vals, fillAll (fun k => ds[k]?) vals a m = aF vals)
    (hr : os.length = m + r)
    (hok : (List.range m).all (okAt os.toArray m ds a.tmps.size) = true)
    (hend : (List.range os.length).all (fun i => decide (i < m) || (List.range m).all fun k => (anc os.toArray 3 i).contains k) = true)
    (hQ : ∀ c (t t' : Array Value) (d : List Deferred) w, Q (.panic c) ⟨t, d⟩ w → Q (.panic c) ⟨t', d⟩ w)
    (hSb : ∀ w w', Below w.heap.size w w' → S w → S w')
    (hΦb : ∀ k v w w', Below w.heap.size w w' → Φ k v w → Φ k v w')
    (hS : S w.drew)
    (hop : AllAt (FreeStep P Q os.toArray ds aF S Φ fresh) 0 os m)
    (hfin : ∀ (vals : Nat → Value) (w : World), S w → (∀ k, k < m → Φ k (vals k) w) →
      (∀ j k, j < m → k < m → j ≠ k → fresh j = true → fresh k = true → ∀ p q, vals j = .pointer (some ⟨p, 0, none⟩) → vals k = .pointer (some ⟨q, 0, none⟩) → p ≠ q) →
      wpAny P .any os.toArray Q r (firsts (m + r) m) (aF vals) w) :
    (Code.region id os.toArray true).wp P Q a w := by
  generalize hops : os.toArray = ops at *
  have hsz0 : ops.size = m + r := by rw [← hops]; simpa using hr
  have hle : m ≤ ops.size := by omega
  replace hend : (List.range ops.size).all (fun i => decide (i < m) || (List.range m).all fun k => (anc ops 3 i).contains k) = true := by rw [hsz0, ← hr]; exact hend
  replace hop : ∀ i, i < m → ∀ o, ops[i]? = some o → FreeStep P Q ops ds aF S Φ fresh i o := fun i hi o ho => by
    have := hop.at i hi o (by rw [← hops] at ho; simpa using ho)
    rwa [Nat.zero_add] at this
  replace hfin : ∀ (vals : Nat → Value) (w : World), S w → (∀ k, k < m → Φ k (vals k) w) →
      (∀ j k, j < m → k < m → j ≠ k → fresh j = true → fresh k = true → ∀ p q, vals j = .pointer (some ⟨p, 0, none⟩) → vals k = .pointer (some ⟨q, 0, none⟩) → p ≠ q) →
      ∀ l : Array Bool, l.size = ops.size → (∀ k, l.getD k false = decide (k < m)) → wpAny P .any ops Q (ops.size - m) l (aF vals) w := fun vals w h1 h2 h3 l h4 h5 => by
    rw [firsts_eq (h4.trans hsz0) (by omega) h5, show ops.size - m = r by omega]
    exact hfin vals w h1 h2 h3
  replace hQ : ∀ c (a a' : Act) w, a.defers = a'.defers → Q (.panic c) a w → Q (.panic c) a' w := by
    rintro c ⟨t, d⟩ ⟨t', d'⟩ w he h
    obtain rfl : d = d' := he
    exact hQ c t t' d w h
  refine wp_region_any hm ?_
  have hat : ∀ i, i < m → okAt ops m ds a.tmps.size i = true := fun i hi => List.all_eq_true.1 hok i (List.mem_range.2 hi)
  have hlate : ∀ i, m ≤ i → i < ops.size → ∀ k, k < m → k ∈ anc ops 3 i := fun i h1 h2 k hk => by
    have := List.all_eq_true.1 hend i (List.mem_range.2 h2)
    simp only [Bool.or_eq_true, decide_eq_true_eq, List.all_eq_true, List.mem_range, List.contains_iff_mem] at this
    exact (this.resolve_left (by omega)) k hk
  have hfr : ∀ (l : Array Bool), l = Array.replicate ops.size false → ∀ k, l.getD k false = false := by
    rintro l rfl k
    simp only [Array.getD_eq_getD_getElem?, Array.getElem?_replicate]
    split <;> rfl
  let J : Array Bool → Act → World → Prop := fun l a' w' => (l.size = ops.size ∧ ∀ k, m ≤ k → l.getD k false = false) ∧ S w' ∧ (∀ k, k < m → l.getD k false = true → ∀ e ∈ afters ops k, l.getD e false = true) ∧
    ∃ vals, a' = fill (fun k => ds[k]?) vals l a m ∧ (∀ k, k < m → l.getD k false = true → Φ k (vals k) w' ∧ (fresh k = true → ∃ q, vals k = .pointer (some ⟨q, 0, none⟩) ∧ q < w'.heap.size)) ∧
      (∀ j k, j < m → k < m → l.getD j false = true → l.getD k false = true → j ≠ k → fresh j = true → fresh k = true → ∀ p q, vals j = .pointer (some ⟨p, 0, none⟩) → vals k = .pointer (some ⟨q, 0, none⟩) → p ≠ q)
  have hdown : ∀ l a' w', J l a' w' → ∀ k, l.getD k false = true → ∀ e ∈ afters ops k, l.getD e false = true := fun l a' w' hj k hk => by
    rcases Nat.lt_or_ge k m with h1 | h1
    · exact hj.2.2.1 k h1 hk
    · rw [hj.1.2 k h1] at hk
      cases hk
  have hz : ∀ j, j ≤ m → left (Array.replicate ops.size false) j = j := fun j => by
    induction j with
    | zero => exact fun _ => rfl
    | succ j ihj => exact fun h => by unfold left; rw [ihj (by omega), hfr _ rfl j]; rfl
  have key := wpAny_inv (P := P) (ops := ops) (Q := Q) (md := .any) m J (fun l a' w' hj => hj.1) hle (fun i o h1 ho e he hb => ?hback) (fun l a' w' i hj hi h1 => ?hstep) (fun l a' w' i hj hi h1 k hk => ?hwait) (fun l a' w' hj hall => ?hfin)
    m (Array.replicate ops.size false) a w.drew (hz m (Nat.le_refl _)) ⟨⟨by simp, fun k _ => hfr _ rfl k⟩, hS, fun k _ h => (by rw [hfr _ rfl k] at h; cases h),
      fun _ => undef, (fill_none fun k _ => hfr _ rfl k).symm, fun k _ h => (by rw [hfr _ rfl k] at h; cases h), fun j k _ _ h => (by rw [hfr _ rfl j] at h; cases h)⟩
  · have e : ops.size - m + m = ops.size := by omega
    rw [e] at key
    exact key
  case hback =>
    obtain ⟨_, _, _, _, _, _, _, hlow, _, _⟩ := okAt_spec (hat i h1)
    refine hlow e.on ?_
    unfold afters
    rw [ho]
    exact List.mem_map.2 ⟨e, List.mem_filter.2 ⟨by simpa using he, hb⟩, rfl⟩
  case hwait =>
    have hlt : i < ops.size := by
      obtain ⟨_, o, ho, _⟩ := mem_ready.1 hi
      exact (Array.getElem?_eq_some_iff.1 ho).1
    exact anc_up (hdown l a' w' hj) 3 i (fun e he => ready_after hi he) k (hlate i h1 hlt k hk)
  case hfin =>
    obtain ⟨⟨hs, hl⟩, hSw, _, vals, rfl, hv, hp⟩ := hj
    rw [fill_all hall, haF]
    refine hfin vals w' hSw (fun k hk => (hv k hk (hall k hk)).1) (fun j k h1 h2 => hp j k h1 h2 (hall j h1) (hall k h2)) l hs fun k => ?_
    rcases Nat.lt_or_ge k m with h | h
    · rw [hall k h, decide_eq_true h]
    · rw [hl k h, decide_eq_false (by omega)]
  case hstep =>
    obtain ⟨⟨hs, hl⟩, hSw, hdn, vals, rfl, hv, hp⟩ := hj
    obtain ⟨o, ho, hdst, hdi, hlt, hg, hsel, hlow, hdist, hops⟩ := okAt_spec (hat i h1)
    have hu : l.getD i false = false := by
      have h2 := (mem_ready.1 hi).1
      have h3 : i < l.size := by omega
      simp only [Array.getD_eq_getD_getElem?] at h2 ⊢
      rw [Array.getElem?_eq_getElem h3] at h2 ⊢
      simpa using h2
    have hdep : ∀ e ∈ afters ops i, l.getD e false = true := fun e he => ready_after hi he
    have heval : ∀ x ∈ o.op.operands, (fill (fun k => ds[k]?) vals l a m).eval x = (aF vals).eval x := fun x hx => by
      rw [← haF vals]
      exact fill_eval fun k hk hk2 d hd hxd => by
        rw [hdep k (hops x hx d hxd k hk hd)] at hk2
        cases hk2
    have hrun := hop i h1 o ho vals w' hSw (fun e he => (hv e (by have := hlow e he; omega) (hdep e he)).1)
      (fun a2 w2 => a2.defers = (aF vals).defers ∧ Below w'.heap.size w' w2 ∧ Φ i (a2.eval (.tmp (ds.getD i 0))) w2 ∧ (fresh i = true → ∃ q, a2.eval (.tmp (ds.getD i 0)) = .pointer (some ⟨q, 0, none⟩) ∧ w'.heap.size ≤ q ∧ q < w2.heap.size))
      (fun a2 w2 h1 h2 h3 h4 => ⟨h1, h2, h3, h4⟩)
    have hsz : ds.getD i 0 < (aF vals).tmps.size := by rw [← haF vals, fillAll_size]; exact hlt
    have next : ∀ v w2, Below w'.heap.size w' w2 → Φ i v w2 → (fresh i = true → ∃ q, v = .pointer (some ⟨q, 0, none⟩) ∧ w'.heap.size ≤ q ∧ q < w2.heap.size) →
        J (l.setIfInBounds i true) ((fill (fun k => ds[k]?) vals l a m).put o.dst v) w2 := fun v w2 hb hphi hfresh => by
      have hne : ∀ k, k ≠ i → (l.setIfInBounds i true).getD k false = l.getD k false := fun k hk => getD_other (Ne.symm hk) _
      refine ⟨⟨by simpa using hs, fun k hk => by rw [hne k (by omega)]; exact hl k hk⟩, hSb _ _ hb hSw, fun k hk hk2 e he => ?_, upd vals i v, ?_, fun k hk hk2 => ?_, fun j k hj hk hj2 hk2 hjk fj fk p q ep eq => ?_⟩
      · by_cases hki : k = i
        · subst hki
          rw [hne e (by have := hlow e he; omega)]
          exact hdep e he
        · rw [hne k hki] at hk2
          by_cases hei : e = i
          · subst hei
            exact getD_same (by omega) _
          · rw [hne e hei]
            exact hdn k hk hk2 e he
      · rw [hdst, ← hdi]
        exact fill_set (by omega) hu h1 fun j hj hji d hd hdi2 => hdist j hj hji (hd.trans hdi2.symm)
      · by_cases hki : k = i
        · subst hki
          rw [show upd vals k v k = v from if_pos rfl]
          exact ⟨hphi, fun hf => by obtain ⟨q, h1, _, h3⟩ := hfresh hf; exact ⟨q, h1, h3⟩⟩
        · rw [hne k hki] at hk2
          rw [show upd vals i v k = vals k from if_neg hki]
          obtain ⟨h3, h4⟩ := hv k hk hk2
          exact ⟨hΦb _ _ _ _ hb h3, fun hf => by obtain ⟨q, h5, h6⟩ := h4 hf; exact ⟨q, h5, Nat.lt_of_lt_of_le h6 hb.size⟩⟩
      · by_cases hji : j = i
        · subst hji
          have hki : k ≠ j := fun h => hjk h.symm
          rw [show upd vals j v j = v from if_pos rfl] at ep
          rw [show upd vals j v k = vals k from if_neg hki] at eq
          rw [hne k hki] at hk2
          obtain ⟨q1, e1, l1, _⟩ := hfresh fj
          obtain ⟨q2, e2, l2⟩ := (hv k hk hk2).2 fk
          rw [e1] at ep
          rw [e2] at eq
          cases ep
          cases eq
          omega
        · by_cases hki : k = i
          · subst hki
            rw [show upd vals k v k = v from if_pos rfl] at eq
            rw [show upd vals k v j = vals j from if_neg hji] at ep
            rw [hne j hji] at hj2
            obtain ⟨q1, e1, l1, _⟩ := hfresh fk
            obtain ⟨q2, e2, l2⟩ := (hv j hj hj2).2 fj
            rw [e1] at eq
            rw [e2] at ep
            cases ep
            cases eq
            omega
          · rw [show upd vals i v j = vals j from if_neg hji] at ep
            rw [show upd vals i v k = vals k from if_neg hki] at eq
            rw [hne j hji] at hj2
            rw [hne k hki] at hk2
            exact hp j k hj hk hj2 hk2 hjk fj fk p q ep eq
    unfold wpOp
    rw [ho]
    simp only []
    rw [if_pos (by unfold Region.wanted; rw [hg])]
    refine .inl ?_
    unfold Oper.wp at hrun ⊢
    rw [execOp_congr o hsel heval]
    generalize (execOp (aF vals).eval o).run P w' = r at hrun ⊢
    have hdef : (aF vals).defers = (fill (fun k => ds[k]?) vals l a m).defers := by rw [← haF vals, fillAll_defers, fill_defers]
    have hput : ∀ v, ((aF vals).put o.dst v).eval (.tmp (ds.getD i 0)) = v := fun v => by rw [hdst]; exact put_same _ _ _ hsz
    cases r with
    | ok n w2 =>
      cases n <;> simp only [Oper.upon] at hrun ⊢
      case value v => rw [hput] at hrun; exact next _ _ hrun.2.1 hrun.2.2.1 hrun.2.2.2
      case skip => rw [hput] at hrun; exact next _ _ hrun.2.1 hrun.2.2.1 hrun.2.2.2
      case defer d =>
        exfalso
        have := hrun.1
        rw [put_defers2] at this
        have := congrArg List.length this
        simp at this
      case enter f args =>
        refine Calls.mono hrun fun e w3 he => ?_
        cases e with
        | returned v => simp only at he ⊢; rw [hput] at he; exact next _ _ he.2.1 he.2.2.1 he.2.2.2
        | panicked c => exact hQ _ _ _ _ hdef he
        | outgrown => exact he
      case row r args =>
        refine Rows.mono hrun fun v w3 he => ?_
        rw [hput] at he
        exact next _ _ he.2.1 he.2.2.1 he.2.2.2
    | halt x w2 =>
      cases x <;> simp only [Oper.upon] at hrun ⊢ <;> exact hQ _ _ _ _ hdef hrun
end

end Go.Proofs.YtgdchljbjnhchaaDoor

/- What package whole answers, as contracts over memory: whole numbers in the shortest limbs, 0 not below 0. Conditions: sizes of at most so many limbs; the table of powers of ten where texts are made or read. -/
namespace Go.Proofs.YtgdchljbjnhchaaDoor
open Go.RowKit Limb
set_option linter.unusedVariables false

theorem ZZ.zof {w : World} {s : Bool} {A : Option Addr} {n c : Nat} {xs : List Nat} {x : Int} {L : Nat} (h : ZZ w s A n c xs x L) : zOf s x.natAbs = x := h.sgn.symm
theorem zOf_not {s : Bool} {a : Nat} {x : Int} (h : zOf s a = x) : zOf (!s) a = -x := by
  subst h; cases s <;> simp [zOf]
theorem zOf_add {s : Bool} {a b : Nat} {x y : Int} (h : zOf s a = x) (k : zOf s b = y) : zOf s (a + b) = x + y := by
  subst h; subst k; cases s <;> simp [zOf] <;> omega
theorem zOf_sub {s s' : Bool} {a b : Nat} {x y : Int} (h : zOf s a = x) (k : zOf s' b = y) (hs : s ≠ s') (hab : b ≤ a) : zOf s (a - b) = x + y := by
  subst h; subst k; cases s <;> cases s' <;> simp [zOf] at hs ⊢ <;> omega
theorem zOf_mul {s s' : Bool} {a b : Nat} {x y : Int} (h : zOf s a = x) (k : zOf s' b = y) : zOf (s != s') (a * b) = x * y := by
  subst h; subst k; cases s <;> cases s' <;> simp [zOf, Int.neg_mul, Int.mul_neg]


theorem cmp_abs_neg {x y : Int} (hx : x < 0) (hy : y < 0) : cmpI y.natAbs x.natAbs = cmpZ x y := by
  rcases Int.lt_trichotomy x y with h | h | h
  · rw [cmpZ_lt h, cmpI_lt (by omega)]
  · rw [cmpZ_eq h, cmpI_same (by omega)]
  · rw [cmpZ_gt h, cmpI_gt (by omega)]
theorem cmp_abs_pos {x y : Int} (hx : 0 ≤ x) (hy : 0 ≤ y) : cmpI x.natAbs y.natAbs = cmpZ x y := by
  rcases Int.lt_trichotomy x y with h | h | h
  · rw [cmpZ_lt h, cmpI_lt (by omega)]
  · rw [cmpZ_eq h, cmpI_same (by omega)]
  · rw [cmpZ_gt h, cmpI_gt (by omega)]

theorem conv_u64 {v : Int} (h : -9223372036854775808 ≤ v) (h1 : v ≤ 9223372036854775807) : IntKind.u64.wrap v = if v < 0 then v + 18446744073709551616 else v := by
  rw [IntKind.wrap_u64]; split <;> omega
theorem zz_zof {v : Int} : zOf (decide (v < 0)) v.natAbs = v := by
  unfold zOf
  by_cases h : v < 0
  · simp [h]; omega
  · simp [h]; omega


end Go.Proofs.YtgdchljbjnhchaaDoor

/- What package whole's Trim answers, as a contract over memory: whole numbers in the shortest limbs, 0 not below 0. Conditions: sizes of at most so many limbs; the table of powers of ten where texts are made or read. -/
namespace Go.Proofs.YtgdchljbjnhchaaDoor
open Go.RowKit Limb
set_option linter.unusedVariables false
section
variable {w : World} {s s' : Bool} {A A' : Option Addr} {n c n' c' : Nat} {xs ys : List Nat} {x y : Int} {L L' : Nat}
set_option maxHeartbeats 4000000 in
set_option maxRecDepth 100000 in
theorem wTrim_c (hx : ZZ w s A n c xs x L) (h1 : L ≤ 100000) :
    Calls Tryd.prog 13 #[.agg #[.bool s, .slice A n c]] w fun e w' => ∃ A2 n2 c2, e = .returned (.agg #[.bool (sg x), .slice A2 n2 c2]) ∧ ZZ w' (sg x) A2 n2 c2 (limbs x.natAbs) x L ∧ Below w.heap.size w w' := by
  have HS := Lib.hid hx.zof
  have b0 := below_new w (.cells #[Value.bool s, Value.slice A n c] 25)
  have bz := below_new (w.alloc (.cells #[Value.bool s, Value.slice A n c] 25)) zbox
  have HW := Lib.hid (below_two b0 bz)
  have HN := Lib.hid (hx.nn.below HW.out)
  have r0 := (row2_new w 25 (.bool s) (.slice A n c)).below bz
  have rz : ZB ((w.alloc (.cells #[Value.bool s, Value.slice A n c] 25)).alloc zbox) (w.alloc (.cells #[Value.bool s, Value.slice A n c] 25)).heap.size := row2_new (w.alloc (.cells #[Value.bool s, Value.slice A n c] 25)) _ _ _
  simp only [World.size_alloc] at rz
  clear b0 bz hx
  go_enter Tryd.func13, Tryd.ntmps13
  go_wp2
  generalize (w.alloc (.cells #[Value.bool s, Value.slice A n c] 25)).alloc zbox = w1 at *
  have HR0 := Lib.hid r0
  have c00 := r0.c0
  have c01 := r0.c1
  have HZ := Lib.hid rz
  clear r0 rz
  clear c00 c01
  refine region_free 6 1 [3, 4, 5, 6, 7, 8] ?aF (fun wx => Below w1.heap.size w1 wx) (fun k v wx => match k with
      | 0 => v = .pointer (some ⟨w.heap.size, 0, none⟩)
      | 1 => v = .bool s
      | 2 => v = .pointer (some ⟨w.heap.size, 1, none⟩)
      | 3 => v = .slice A n c
      | 4 => ∃ A2 n2 c2, v = .slice A2 n2 c2 ∧ NN wx A2 n2 c2 (limbs x.natAbs) x.natAbs L
      | _ => ∃ A2 n2 c2, v = .agg #[.bool (sg x), .slice A2 n2 c2] ∧ ZZ wx (sg x) A2 n2 c2 (limbs x.natAbs) x L)
    (fun _ => false) (by kernel_rfl) ?haF rfl (by kernel_rfl) (by kernel_rfl) (fun _ _ _ _ _ h => h) ?hSb ?hPb ?hS ?hop ?hfin
  case haF =>
    intro vals
    simp only [fillAll, List.getElem?_cons_zero, List.getElem?_cons_succ, Act.put, List.setIfInBounds_toArray, List.set_cons_zero, List.set_cons_succ]
    exact rfl
  case hSb => exact fun wx w2 hb hS => below_two hS hb
  case hPb =>
    intro k v wa wb hb h
    match k, h with
    | 0, h => exact h
    | 1, h => exact h
    | 2, h => exact h
    | 3, h => exact h
    | 4, ⟨A2, n2, c2, h1, h2⟩ => exact ⟨A2, n2, c2, h1, h2.below hb⟩
    | _ + 5, ⟨A2, n2, c2, h1, h2⟩ => exact ⟨A2, n2, c2, h1, h2.below hb⟩
  case hS => exact (Below.refl _ _).drew
  case hop =>
    refine .cons (k := 0) ?_ (.cons (k := 1) ?_ (.cons (k := 2) ?_ (.cons (k := 3) ?_ (.cons (k := 4) ?_ (.cons (k := 5) ?_ (.nil))))))
    all_goals intro vals wr hS hd KC hK
    all_goals (show Oper.wp _ _ _ _ _ _; dsimp only)
    · go_simp
      refine hK _ _ rfl (Below.refl _ _) rfl (fun h => by cases h)
    · have d0 : vals 0 = _ := hd 0 (by decide +kernel)
      rw [d0]
      have c0 := (HR0.out.below hS).c0
      go_simp
      refine hK _ _ rfl (Below.refl _ _) rfl (fun h => by cases h)
    · go_simp
      refine hK _ _ rfl (Below.refl _ _) rfl (fun h => by cases h)
    · have d2 : vals 2 = _ := hd 2 (by decide +kernel)
      rw [d2]
      have c0 := (HR0.out.below hS).c1
      go_simp
      refine hK _ _ rfl (Below.refl _ _) rfl (fun h => by cases h)
    · have d3 : vals 3 = _ := hd 3 (by decide +kernel)
      rw [d3]
      go_simp
      go_at_call 25
      with_reducible refine (trim_c (HN.out.below hS) (by omega)).mono ?_
      rintro e w2 ⟨A_r, n_r, c_r, rfl, h_r, bn_r⟩
      refine hK _ _ rfl bn_r ⟨_, _, _, rfl, h_r⟩ (fun h => by cases h)
    · have d1 : vals 1 = _ := hd 1 (by decide +kernel)
      obtain ⟨A_m, n_m, c_m, d4, h_m⟩ := hd 4 (by decide +kernel)
      rw [d1, d4]
      go_simp
      go_at_call 19
      with_reducible refine (signed_c h_m _ x (by first | exact HS.out | simpa using HS.out)).mono ?_
      rintro e w2 ⟨rfl, h_r, bn_r⟩
      refine hK _ _ rfl bn_r ⟨_, _, _, rfl, h_r⟩ (fun h => by cases h)
  case hfin =>
    intro vals wr hS hP hne
    obtain ⟨A2, n2, c2, ez, h3⟩ := hP 5 (by decide)
    have hZ3 := HZ.out.below hS
    obtain ⟨e0, e1, f0, f1⟩ := hZ3.cells
    try dsimp only
    rw [ez]
    have HF := Lib.hid (hZ3.fill (.bool (sg x)) (.slice A2 n2 c2))
    have HP := Lib.hid (h3.put hZ3 (.bool (sg x)) (.slice A2 n2 c2))
    have HB := Lib.hid (below_fill (g := w.heap.size + 1) (below_two HW.out hS) (by omega) (.bool (sg x)) (.slice A2 n2 c2))
    refine wpAny_ready (rs := [6]) (by kernel_rfl) (by simp) (AllReady.cons rfl (fun KC hK => ?_) AllReady.nil)
    go_simp
    refine hK _ _ ?_
    clear hK KC
    refine wpAny_done (by kernel_rfl) ?_ _
    go_wp2
    refine bodyPost_ret (results_cell_row rfl _ _ (w.heap.size + 1) 25 #[.bool (sg x), .slice A2 n2 c2] (0, 0) _ rfl HF.out Tryd.underlying25 rfl int_size) rfl ?_
    exact ⟨A2, n2, c2, rfl, HP.out, HB.out⟩
end

end Go.Proofs.YtgdchljbjnhchaaDoor

/- What package whole's Neg answers, as a contract over memory: whole numbers in the shortest limbs, 0 not below 0. Conditions: sizes of at most so many limbs; the table of powers of ten where texts are made or read. -/
namespace Go.Proofs.YtgdchljbjnhchaaDoor
open Go.RowKit Limb
set_option linter.unusedVariables false
section
variable {w : World} {s s' : Bool} {A A' : Option Addr} {n c n' c' : Nat} {xs ys : List Nat} {x y : Int} {L L' : Nat}
set_option maxHeartbeats 4000000 in
set_option maxRecDepth 100000 in
theorem wNeg_c (hx : ZZ w s A n c xs x L) (h1 : L ≤ 100000) (z : Int) (hz : -x = z) :
    Calls Tryd.prog 12 #[.agg #[.bool s, .slice A n c]] w fun e w' => ∃ A2 n2 c2, e = .returned (.agg #[.bool (sg z), .slice A2 n2 c2]) ∧ ZZ w' (sg z) A2 n2 c2 (limbs z.natAbs) z L ∧ Below w.heap.size w w' := by
  have HS : RowKit.Hid (zOf (!s) x.natAbs = z) := (zOf_not hx.zof).trans hz
  clear hz
  have b0 := below_new w (.cells #[Value.bool s, Value.slice A n c] 25)
  have bz := below_new (w.alloc (.cells #[Value.bool s, Value.slice A n c] 25)) zbox
  have HW := Lib.hid (below_two b0 bz)
  have HN := Lib.hid (hx.nn.below HW.out)
  have r0 := (row2_new w 25 (.bool s) (.slice A n c)).below bz
  have rz : ZB ((w.alloc (.cells #[Value.bool s, Value.slice A n c] 25)).alloc zbox) (w.alloc (.cells #[Value.bool s, Value.slice A n c] 25)).heap.size := row2_new (w.alloc (.cells #[Value.bool s, Value.slice A n c] 25)) _ _ _
  simp only [World.size_alloc] at rz
  clear b0 bz hx
  go_enter Tryd.func12, Tryd.ntmps12
  go_wp2
  generalize (w.alloc (.cells #[Value.bool s, Value.slice A n c] 25)).alloc zbox = w1 at *
  have HR0 := Lib.hid r0
  have c00 := r0.c0
  have c01 := r0.c1
  have HZ := Lib.hid rz
  clear r0 rz
  clear c00 c01
  refine region_free 7 1 [3, 4, 5, 6, 7, 8, 9] ?aF (fun wx => Below w1.heap.size w1 wx) (fun k v wx => match k with
      | 0 => v = .pointer (some ⟨w.heap.size, 0, none⟩)
      | 1 => v = .bool s
      | 2 => v = .bool (!s)
      | 3 => v = .pointer (some ⟨w.heap.size, 1, none⟩)
      | 4 => v = .slice A n c
      | 5 => ∃ A2 n2 c2, v = .slice A2 n2 c2 ∧ NN wx A2 n2 c2 (limbs x.natAbs) x.natAbs L
      | _ => ∃ A2 n2 c2, v = .agg #[.bool (sg z), .slice A2 n2 c2] ∧ ZZ wx (sg z) A2 n2 c2 (limbs z.natAbs) z L)
    (fun _ => false) (by kernel_rfl) ?haF rfl (by kernel_rfl) (by kernel_rfl) (fun _ _ _ _ _ h => h) ?hSb ?hPb ?hS ?hop ?hfin
  case haF =>
    intro vals
    simp only [fillAll, List.getElem?_cons_zero, List.getElem?_cons_succ, Act.put, List.setIfInBounds_toArray, List.set_cons_zero, List.set_cons_succ]
    exact rfl
  case hSb => exact fun wx w2 hb hS => below_two hS hb
  case hPb =>
    intro k v wa wb hb h
    match k, h with
    | 0, h => exact h
    | 1, h => exact h
    | 2, h => exact h
    | 3, h => exact h
    | 4, h => exact h
    | 5, ⟨A2, n2, c2, h1, h2⟩ => exact ⟨A2, n2, c2, h1, h2.below hb⟩
    | _ + 6, ⟨A2, n2, c2, h1, h2⟩ => exact ⟨A2, n2, c2, h1, h2.below hb⟩
  case hS => exact (Below.refl _ _).drew
  case hop =>
    refine .cons (k := 0) ?_ (.cons (k := 1) ?_ (.cons (k := 2) ?_ (.cons (k := 3) ?_ (.cons (k := 4) ?_ (.cons (k := 5) ?_ (.cons (k := 6) ?_ (.nil)))))))
    all_goals intro vals wr hS hd KC hK
    all_goals (show Oper.wp _ _ _ _ _ _; dsimp only)
    · go_simp
      refine hK _ _ rfl (Below.refl _ _) rfl (fun h => by cases h)
    · have d0 : vals 0 = _ := hd 0 (by decide +kernel)
      rw [d0]
      have c0 := (HR0.out.below hS).c0
      go_simp
      refine hK _ _ rfl (Below.refl _ _) rfl (fun h => by cases h)
    · have d1 : vals 1 = _ := hd 1 (by decide +kernel)
      rw [d1]
      go_simp
      refine hK _ _ rfl (Below.refl _ _) (by first | rfl | (simp)) (fun h => by cases h)
    · go_simp
      refine hK _ _ rfl (Below.refl _ _) rfl (fun h => by cases h)
    · have d3 : vals 3 = _ := hd 3 (by decide +kernel)
      rw [d3]
      have c0 := (HR0.out.below hS).c1
      go_simp
      refine hK _ _ rfl (Below.refl _ _) rfl (fun h => by cases h)
    · have d4 : vals 4 = _ := hd 4 (by decide +kernel)
      rw [d4]
      go_simp
      go_at_call 25
      with_reducible refine (trim_c (HN.out.below hS) (by omega)).mono ?_
      rintro e w2 ⟨A_r, n_r, c_r, rfl, h_r, bn_r⟩
      refine hK _ _ rfl bn_r ⟨_, _, _, rfl, h_r⟩ (fun h => by cases h)
    · have d2 : vals 2 = _ := hd 2 (by decide +kernel)
      obtain ⟨A_m, n_m, c_m, d5, h_m⟩ := hd 5 (by decide +kernel)
      rw [d2, d5]
      go_simp
      go_at_call 19
      with_reducible refine (signed_c h_m _ z (by first | exact HS.out | simpa using HS.out)).mono ?_
      rintro e w2 ⟨rfl, h_r, bn_r⟩
      refine hK _ _ rfl bn_r ⟨_, _, _, rfl, h_r⟩ (fun h => by cases h)
  case hfin =>
    intro vals wr hS hP hne
    obtain ⟨A2, n2, c2, ez, h3⟩ := hP 6 (by decide)
    have hZ3 := HZ.out.below hS
    obtain ⟨e0, e1, f0, f1⟩ := hZ3.cells
    try dsimp only
    rw [ez]
    have HF := Lib.hid (hZ3.fill (.bool (sg z)) (.slice A2 n2 c2))
    have HP := Lib.hid (h3.put hZ3 (.bool (sg z)) (.slice A2 n2 c2))
    have HB := Lib.hid (below_fill (g := w.heap.size + 1) (below_two HW.out hS) (by omega) (.bool (sg z)) (.slice A2 n2 c2))
    refine wpAny_ready (rs := [7]) (by kernel_rfl) (by simp) (AllReady.cons rfl (fun KC hK => ?_) AllReady.nil)
    go_simp
    refine hK _ _ ?_
    clear hK KC
    refine wpAny_done (by kernel_rfl) ?_ _
    go_wp2
    refine bodyPost_ret (results_cell_row rfl _ _ (w.heap.size + 1) 25 #[.bool (sg z), .slice A2 n2 c2] (0, 0) _ rfl HF.out Tryd.underlying25 rfl int_size) rfl ?_
    exact ⟨A2, n2, c2, rfl, HP.out, HB.out⟩
end

end Go.Proofs.YtgdchljbjnhchaaDoor

/- What package whole's Mul answers, as a contract over memory: whole numbers in the shortest limbs, 0 not below 0. Conditions: sizes of at most so many limbs; the table of powers of ten where texts are made or read. -/
namespace Go.Proofs.YtgdchljbjnhchaaDoor
open Go.RowKit Limb
set_option linter.unusedVariables false
section
variable {w : World} {s s' : Bool} {A A' : Option Addr} {n c n' c' : Nat} {xs ys : List Nat} {x y : Int} {L L' : Nat}
set_option maxHeartbeats 4000000 in
set_option maxRecDepth 100000 in
theorem wMul_c (hx : ZZ w s A n c xs x L) (hy : ZZ w s' A' n' c' ys y L') (K : Nat) (h1 : L ≤ 100000) (h2 : L' ≤ 100000) (h3 : L + L' ≤ K) (z : Int) (hz : x * y = z) :
    Calls Tryd.prog 9 #[.agg #[.bool s, .slice A n c], .agg #[.bool s', .slice A' n' c']] w fun e w' => ∃ A2 n2 c2, e = .returned (.agg #[.bool (sg z), .slice A2 n2 c2]) ∧ ZZ w' (sg z) A2 n2 c2 (limbs z.natAbs) z K ∧ Below w.heap.size w w' := by
  have HS : RowKit.Hid (zOf (s != s') (x.natAbs * y.natAbs) = z) := (zOf_mul hx.zof hy.zof).trans hz
  clear hz
  have b0 := below_new w (.cells #[Value.bool s, Value.slice A n c] 25)
  have b1 := below_new (w.alloc (.cells #[Value.bool s, Value.slice A n c] 25)) (.cells #[Value.bool s', Value.slice A' n' c'] 25)
  have bz := below_new ((w.alloc (.cells #[Value.bool s, Value.slice A n c] 25)).alloc (.cells #[Value.bool s', Value.slice A' n' c'] 25)) zbox
  have HW := Lib.hid (below_two (below_two b0 b1) bz)
  have HN := Lib.hid (hx.nn.below HW.out)
  have HM := Lib.hid (hy.nn.below HW.out)
  have r0 := ((row2_new w 25 (.bool s) (.slice A n c)).below b1).below bz
  have r1 := (row2_new (w.alloc (.cells #[Value.bool s, Value.slice A n c] 25)) 25 (.bool s') (.slice A' n' c')).below bz
  have rz : ZB (((w.alloc (.cells #[Value.bool s, Value.slice A n c] 25)).alloc (.cells #[Value.bool s', Value.slice A' n' c'] 25)).alloc zbox) ((w.alloc (.cells #[Value.bool s, Value.slice A n c] 25)).alloc (.cells #[Value.bool s', Value.slice A' n' c'] 25)).heap.size := row2_new ((w.alloc (.cells #[Value.bool s, Value.slice A n c] 25)).alloc (.cells #[Value.bool s', Value.slice A' n' c'] 25)) _ _ _
  simp only [World.size_alloc] at r1 rz
  clear b0 b1 bz hx hy
  go_enter Tryd.func9, Tryd.ntmps9
  go_wp2
  generalize ((w.alloc (.cells #[Value.bool s, Value.slice A n c] 25)).alloc (.cells #[Value.bool s', Value.slice A' n' c'] 25)).alloc zbox = w1 at *
  have HR0 := Lib.hid r0
  have c00 := r0.c0
  have c01 := r0.c1
  have HR1 := Lib.hid r1
  have c10 := r1.c0
  have c11 := r1.c1
  have HZ := Lib.hid rz
  clear r0 r1 rz
  clear c00 c01 c10 c11
  refine region_free 11 1 [5, 6, 7, 8, 9, 10, 11, 12, 13, 14, 15] ?aF (fun wx => Below w1.heap.size w1 wx) (fun k v wx => match k with
      | 0 => v = .pointer (some ⟨w.heap.size, 0, none⟩)
      | 1 => v = .bool s
      | 2 => v = .pointer (some ⟨w.heap.size + 1, 0, none⟩)
      | 3 => v = .bool s'
      | 4 => v = .bool (s != s')
      | 5 => v = .pointer (some ⟨w.heap.size, 1, none⟩)
      | 6 => v = .slice A n c
      | 7 => v = .pointer (some ⟨w.heap.size + 1, 1, none⟩)
      | 8 => v = .slice A' n' c'
      | 9 => ∃ A2 n2 c2, v = .slice A2 n2 c2 ∧ NN wx A2 n2 c2 (limbs (x.natAbs * y.natAbs)) (x.natAbs * y.natAbs) K
      | _ => ∃ A2 n2 c2, v = .agg #[.bool (sg z), .slice A2 n2 c2] ∧ ZZ wx (sg z) A2 n2 c2 (limbs z.natAbs) z K)
    (fun _ => false) (by kernel_rfl) ?haF rfl (by kernel_rfl) (by kernel_rfl) (fun _ _ _ _ _ h => h) ?hSb ?hPb ?hS ?hop ?hfin
  case haF =>
    intro vals
    simp only [fillAll, List.getElem?_cons_zero, List.getElem?_cons_succ, Act.put, List.setIfInBounds_toArray, List.set_cons_zero, List.set_cons_succ]
    exact rfl
  case hSb => exact fun wx w2 hb hS => below_two hS hb
  case hPb =>
    intro k v wa wb hb h
    match k, h with
    | 0, h => exact h
    | 1, h => exact h
    | 2, h => exact h
    | 3, h => exact h
    | 4, h => exact h
    | 5, h => exact h
    | 6, h => exact h
    | 7, h => exact h
    | 8, h => exact h
    | 9, ⟨A2, n2, c2, h1, h2⟩ => exact ⟨A2, n2, c2, h1, h2.below hb⟩
    | _ + 10, ⟨A2, n2, c2, h1, h2⟩ => exact ⟨A2, n2, c2, h1, h2.below hb⟩
  case hS => exact (Below.refl _ _).drew
  case hop =>
    refine .cons (k := 0) ?_ (.cons (k := 1) ?_ (.cons (k := 2) ?_ (.cons (k := 3) ?_ (.cons (k := 4) ?_ (.cons (k := 5) ?_ (.cons (k := 6) ?_ (.cons (k := 7) ?_ (.cons (k := 8) ?_ (.cons (k := 9) ?_ (.cons (k := 10) ?_ (.nil)))))))))))
    all_goals intro vals wr hS hd KC hK
    all_goals (show Oper.wp _ _ _ _ _ _; dsimp only)
    · go_simp
      refine hK _ _ rfl (Below.refl _ _) rfl (fun h => by cases h)
    · have d0 : vals 0 = _ := hd 0 (by decide +kernel)
      rw [d0]
      have c0 := (HR0.out.below hS).c0
      go_simp
      refine hK _ _ rfl (Below.refl _ _) rfl (fun h => by cases h)
    · go_simp
      refine hK _ _ rfl (Below.refl _ _) rfl (fun h => by cases h)
    · have d2 : vals 2 = _ := hd 2 (by decide +kernel)
      rw [d2]
      have c0 := (HR1.out.below hS).c0
      go_simp
      refine hK _ _ rfl (Below.refl _ _) rfl (fun h => by cases h)
    · have d1 : vals 1 = _ := hd 1 (by decide +kernel)
      have d3 : vals 3 = _ := hd 3 (by decide +kernel)
      rw [d1, d3]
      go_simp
      refine hK _ _ rfl (Below.refl _ _) (by first | rfl | (simp)) (fun h => by cases h)
    · go_simp
      refine hK _ _ rfl (Below.refl _ _) rfl (fun h => by cases h)
    · have d5 : vals 5 = _ := hd 5 (by decide +kernel)
      rw [d5]
      have c0 := (HR0.out.below hS).c1
      go_simp
      refine hK _ _ rfl (Below.refl _ _) rfl (fun h => by cases h)
    · go_simp
      refine hK _ _ rfl (Below.refl _ _) rfl (fun h => by cases h)
    · have d7 : vals 7 = _ := hd 7 (by decide +kernel)
      rw [d7]
      have c0 := (HR1.out.below hS).c1
      go_simp
      refine hK _ _ rfl (Below.refl _ _) rfl (fun h => by cases h)
    · have d6 : vals 6 = _ := hd 6 (by decide +kernel)
      have d8 : vals 8 = _ := hd 8 (by decide +kernel)
      rw [d6, d8]
      go_simp
      go_at_call 22
      with_reducible refine (mulOf_c (HN.out.below hS) (HM.out.below hS) K (by omega) (by omega) h3).mono ?_
      rintro e w2 ⟨A_r, n_r, c_r, rfl, h_r, bn_r⟩
      refine hK _ _ rfl bn_r ⟨_, _, _, rfl, h_r⟩ (fun h => by cases h)
    · have d4 : vals 4 = _ := hd 4 (by decide +kernel)
      obtain ⟨A_m, n_m, c_m, d9, h_m⟩ := hd 9 (by decide +kernel)
      rw [d4, d9]
      go_simp
      go_at_call 19
      with_reducible refine (signed_c h_m _ z (by first | exact HS.out | simpa using HS.out)).mono ?_
      rintro e w2 ⟨rfl, h_r, bn_r⟩
      refine hK _ _ rfl bn_r ⟨_, _, _, rfl, h_r⟩ (fun h => by cases h)
  case hfin =>
    intro vals wr hS hP hne
    obtain ⟨A2, n2, c2, ez, h3⟩ := hP 10 (by decide)
    have hZ3 := HZ.out.below hS
    obtain ⟨e0, e1, f0, f1⟩ := hZ3.cells
    try dsimp only
    rw [ez]
    have HF := Lib.hid (hZ3.fill (.bool (sg z)) (.slice A2 n2 c2))
    have HP := Lib.hid (h3.put hZ3 (.bool (sg z)) (.slice A2 n2 c2))
    have HB := Lib.hid (below_fill (g := w.heap.size + 1 + 1) (below_two HW.out hS) (by omega) (.bool (sg z)) (.slice A2 n2 c2))
    refine wpAny_ready (rs := [11]) (by kernel_rfl) (by simp) (AllReady.cons rfl (fun KC hK => ?_) AllReady.nil)
    go_simp
    refine hK _ _ ?_
    clear hK KC
    refine wpAny_done (by kernel_rfl) ?_ _
    go_wp2
    refine bodyPost_ret (results_cell_row rfl _ _ (w.heap.size + 1 + 1) 25 #[.bool (sg z), .slice A2 n2 c2] (0, 0) _ rfl HF.out Tryd.underlying25 rfl int_size) rfl ?_
    exact ⟨A2, n2, c2, rfl, HP.out, HB.out⟩
end

end Go.Proofs.YtgdchljbjnhchaaDoor

/- What package whole's Add answers, as a contract over memory: whole numbers in the shortest limbs, 0 not below 0. Conditions: sizes of at most so many limbs; the table of powers of ten where texts are made or read. -/
namespace Go.Proofs.YtgdchljbjnhchaaDoor
open Go.RowKit Limb
set_option linter.unusedVariables false
section
variable {w : World} {s s' : Bool} {A A' : Option Addr} {n c n' c' : Nat} {xs ys : List Nat} {x y : Int} {L L' : Nat}
set_option maxHeartbeats 4000000 in
set_option maxRecDepth 100000 in
theorem wAdd_c (hx : ZZ w s A n c xs x L) (hy : ZZ w s' A' n' c' ys y L') (K : Nat) (h1 : L < K) (h2 : L' < K) (h3 : K ≤ 100000) (z : Int) (hz : x + y = z) :
    Calls Tryd.prog 8 #[.agg #[.bool s, .slice A n c], .agg #[.bool s', .slice A' n' c']] w fun e w' => ∃ A2 n2 c2, e = .returned (.agg #[.bool (sg z), .slice A2 n2 c2]) ∧ ZZ w' (sg z) A2 n2 c2 (limbs z.natAbs) z K ∧ Below w.heap.size w w' := by
  have HX := Lib.hid hx.zof
  have HY := Lib.hid hy.zof
  by_cases hs : s = s'
  · subst hs
    have HS : RowKit.Hid (zOf s (x.natAbs + y.natAbs) = z) := (zOf_add HX.out HY.out).trans hz
    clear hz HX HY
    have b0 := below_new w (.cells #[Value.bool s, Value.slice A n c] 25)
    have b1 := below_new (w.alloc (.cells #[Value.bool s, Value.slice A n c] 25)) (.cells #[Value.bool s, Value.slice A' n' c'] 25)
    have bz := below_new ((w.alloc (.cells #[Value.bool s, Value.slice A n c] 25)).alloc (.cells #[Value.bool s, Value.slice A' n' c'] 25)) zbox
    have HW := Lib.hid (below_two (below_two b0 b1) bz)
    have HN := Lib.hid (hx.nn.below HW.out)
    have HM := Lib.hid (hy.nn.below HW.out)
    have r0 := ((row2_new w 25 (.bool s) (.slice A n c)).below b1).below bz
    have r1 := (row2_new (w.alloc (.cells #[Value.bool s, Value.slice A n c] 25)) 25 (.bool s) (.slice A' n' c')).below bz
    have rz : ZB (((w.alloc (.cells #[Value.bool s, Value.slice A n c] 25)).alloc (.cells #[Value.bool s, Value.slice A' n' c'] 25)).alloc zbox) ((w.alloc (.cells #[Value.bool s, Value.slice A n c] 25)).alloc (.cells #[Value.bool s, Value.slice A' n' c'] 25)).heap.size := row2_new ((w.alloc (.cells #[Value.bool s, Value.slice A n c] 25)).alloc (.cells #[Value.bool s, Value.slice A' n' c'] 25)) _ _ _
    simp only [World.size_alloc] at r1 rz
    clear b0 b1 bz hx hy
    go_enter Tryd.func8, Tryd.ntmps8
    go_wp2_with fail
    generalize ((w.alloc (.cells #[Value.bool s, Value.slice A n c] 25)).alloc (.cells #[Value.bool s, Value.slice A' n' c'] 25)).alloc zbox = w1 at *
    have HR0 := Lib.hid r0
    have c00 := r0.c0
    have c01 := r0.c1
    have HR1 := Lib.hid r1
    have c10 := r1.c0
    have c11 := r1.c1
    have HZ := Lib.hid rz
    clear r0 r1 rz
    clear c00 c01 c10 c11
    refine region_free 8 1 [14, 15, 16, 17, 18, 19, 20, 21] ?aF (fun wx => Below w1.heap.size w1 wx) (fun k v wx => match k with
        | 0 => v = .pointer (some ⟨w.heap.size, 0, none⟩)
        | 1 => v = .bool s
        | 2 => v = .pointer (some ⟨w.heap.size, 1, none⟩)
        | 3 => v = .slice A n c
        | 4 => v = .pointer (some ⟨w.heap.size + 1, 1, none⟩)
        | 5 => v = .slice A' n' c'
        | 6 => ∃ A2 n2 c2, v = .slice A2 n2 c2 ∧ NN wx A2 n2 c2 (limbs (x.natAbs + y.natAbs)) (x.natAbs + y.natAbs) K
        | _ => ∃ A2 n2 c2, v = .agg #[.bool (sg z), .slice A2 n2 c2] ∧ ZZ wx (sg z) A2 n2 c2 (limbs z.natAbs) z K)
      (fun _ => false) (by kernel_rfl) ?haF rfl (by kernel_rfl) (by kernel_rfl) (fun _ _ _ _ _ h => h) ?hSb ?hPb ?hS ?hop ?hfin
    case haF =>
      intro vals
      simp only [fillAll, List.getElem?_cons_zero, List.getElem?_cons_succ, Act.put, List.setIfInBounds_toArray, List.set_cons_zero, List.set_cons_succ]
      exact rfl
    case hSb => exact fun wx w2 hb hS => below_two hS hb
    case hPb =>
      intro k v wa wb hb h
      match k, h with
      | 0, h => exact h
      | 1, h => exact h
      | 2, h => exact h
      | 3, h => exact h
      | 4, h => exact h
      | 5, h => exact h
      | 6, ⟨A2, n2, c2, h1, h2⟩ => exact ⟨A2, n2, c2, h1, h2.below hb⟩
      | _ + 7, ⟨A2, n2, c2, h1, h2⟩ => exact ⟨A2, n2, c2, h1, h2.below hb⟩
    case hS => exact (Below.refl _ _).drew
    case hop =>
      refine .cons (k := 0) ?_ (.cons (k := 1) ?_ (.cons (k := 2) ?_ (.cons (k := 3) ?_ (.cons (k := 4) ?_ (.cons (k := 5) ?_ (.cons (k := 6) ?_ (.cons (k := 7) ?_ (.nil))))))))
      all_goals intro vals wr hS hd KC hK
      all_goals (show Oper.wp _ _ _ _ _ _; dsimp only)
      · go_simp
        refine hK _ _ rfl (Below.refl _ _) rfl (fun h => by cases h)
      · have d0 : vals 0 = _ := hd 0 (by decide +kernel)
        rw [d0]
        have c0 := (HR0.out.below hS).c0
        go_simp
        refine hK _ _ rfl (Below.refl _ _) rfl (fun h => by cases h)
      · go_simp
        refine hK _ _ rfl (Below.refl _ _) rfl (fun h => by cases h)
      · have d2 : vals 2 = _ := hd 2 (by decide +kernel)
        rw [d2]
        have c0 := (HR0.out.below hS).c1
        go_simp
        refine hK _ _ rfl (Below.refl _ _) rfl (fun h => by cases h)
      · go_simp
        refine hK _ _ rfl (Below.refl _ _) rfl (fun h => by cases h)
      · have d4 : vals 4 = _ := hd 4 (by decide +kernel)
        rw [d4]
        have c0 := (HR1.out.below hS).c1
        go_simp
        refine hK _ _ rfl (Below.refl _ _) rfl (fun h => by cases h)
      · have d3 : vals 3 = _ := hd 3 (by decide +kernel)
        have d5 : vals 5 = _ := hd 5 (by decide +kernel)
        rw [d3, d5]
        go_simp
        go_at_call 20
        with_reducible refine (add_c (HN.out.below hS) (HM.out.below hS) K h1 h2 (by omega)).mono ?_
        rintro e w2 ⟨A_r, n_r, c_r, rfl, h_r, bn_r⟩
        refine hK _ _ rfl bn_r ⟨_, _, _, rfl, h_r⟩ (fun h => by cases h)
      · have d1 : vals 1 = _ := hd 1 (by decide +kernel)
        obtain ⟨A_m, n_m, c_m, d6, h_m⟩ := hd 6 (by decide +kernel)
        rw [d1, d6]
        go_simp
        go_at_call 19
        with_reducible refine (signed_c h_m _ z (by first | exact HS.out | simpa using HS.out)).mono ?_
        rintro e w2 ⟨rfl, h_r, bn_r⟩
        refine hK _ _ rfl bn_r ⟨_, _, _, rfl, h_r⟩ (fun h => by cases h)
    case hfin =>
      intro vals wr hS hP hne
      obtain ⟨A2, n2, c2, ez, h3⟩ := hP 7 (by decide)
      have hZ3 := HZ.out.below hS
      obtain ⟨e0, e1, f0, f1⟩ := hZ3.cells
      try dsimp only
      rw [ez]
      have HF := Lib.hid (hZ3.fill (.bool (sg z)) (.slice A2 n2 c2))
      have HP := Lib.hid (h3.put hZ3 (.bool (sg z)) (.slice A2 n2 c2))
      have HB := Lib.hid (below_fill (g := w.heap.size + 1 + 1) (below_two HW.out hS) (by omega) (.bool (sg z)) (.slice A2 n2 c2))
      refine wpAny_ready (rs := [8]) (by kernel_rfl) (by simp) (AllReady.cons rfl (fun KC hK => ?_) AllReady.nil)
      go_simp
      refine hK _ _ ?_
      clear hK KC
      refine wpAny_done (by kernel_rfl) ?_ _
      go_wp2
      refine bodyPost_ret (results_cell_row rfl _ _ (w.heap.size + 1 + 1) 25 #[.bool (sg z), .slice A2 n2 c2] (0, 0) _ rfl HF.out Tryd.underlying25 rfl int_size) rfl ?_
      exact ⟨A2, n2, c2, rfl, HP.out, HB.out⟩
  · by_cases hab : y.natAbs ≤ x.natAbs
    · have HS : RowKit.Hid (zOf s (x.natAbs - y.natAbs) = z) := (zOf_sub HX.out HY.out hs hab).trans hz
      have HK : RowKit.Hid (x.natAbs - y.natAbs < 4294967296 ^ K) := Nat.lt_of_le_of_lt (Nat.sub_le _ _) (Nat.lt_of_lt_of_le (lt_pow hx.nn) (Nat.pow_le_pow_right (by decide) (by omega)))
      clear hz HX HY
      have hs2 : (s == s') = false := by simpa using hs
      clear hs
      have b0 := below_new w (.cells #[Value.bool s, Value.slice A n c] 25)
      have b1 := below_new (w.alloc (.cells #[Value.bool s, Value.slice A n c] 25)) (.cells #[Value.bool s', Value.slice A' n' c'] 25)
      have bz := below_new ((w.alloc (.cells #[Value.bool s, Value.slice A n c] 25)).alloc (.cells #[Value.bool s', Value.slice A' n' c'] 25)) zbox
      have HW := Lib.hid (below_two (below_two b0 b1) bz)
      have HN := Lib.hid (hx.nn.below HW.out)
      have HM := Lib.hid (hy.nn.below HW.out)
      have r0 := ((row2_new w 25 (.bool s) (.slice A n c)).below b1).below bz
      have r1 := (row2_new (w.alloc (.cells #[Value.bool s, Value.slice A n c] 25)) 25 (.bool s') (.slice A' n' c')).below bz
      have rz : ZB (((w.alloc (.cells #[Value.bool s, Value.slice A n c] 25)).alloc (.cells #[Value.bool s', Value.slice A' n' c'] 25)).alloc zbox) ((w.alloc (.cells #[Value.bool s, Value.slice A n c] 25)).alloc (.cells #[Value.bool s', Value.slice A' n' c'] 25)).heap.size := row2_new ((w.alloc (.cells #[Value.bool s, Value.slice A n c] 25)).alloc (.cells #[Value.bool s', Value.slice A' n' c'] 25)) _ _ _
      simp only [World.size_alloc] at r1 rz
      clear b0 b1 bz hx hy
      go_enter Tryd.func8, Tryd.ntmps8
      go_wp2_with fail
      generalize ((w.alloc (.cells #[Value.bool s, Value.slice A n c] 25)).alloc (.cells #[Value.bool s', Value.slice A' n' c'] 25)).alloc zbox = w1 at *
      have HR0 := Lib.hid r0
      have c00 := r0.c0
      have c01 := r0.c1
      have HR1 := Lib.hid r1
      have c10 := r1.c0
      have c11 := r1.c1
      have HZ := Lib.hid rz
      clear r0 r1 rz
      go_wp2_with fail
      refine (sub_yes HN.out HM.out (by omega) (by omega) hab).mono ?_
      rintro e w2 ⟨A2, n2, c2, rfl, h2, bn2⟩
      have BN2 := Lib.hid bn2
      have d200 := (HR0.out.below BN2.out).c0
      have d201 := (HR0.out.below BN2.out).c1
      have d210 := (HR1.out.below BN2.out).c0
      have d211 := (HR1.out.below BN2.out).c1
      clear bn2
      go_wp2_with fail
      refine (signed_c (h2.relax HK.out) _ z (by first | exact HS.out | simpa using HS.out)).mono ?_
      rintro e w4 ⟨rfl, h4, bm⟩
      have BN4 := Lib.hid (below_two BN2.out bm)
      obtain ⟨e0, e1, f0, f1⟩ := (HZ.out.below BN4.out).cells
      have HF := Lib.hid ((HZ.out.below BN4.out).fill (.bool (sg z)) (.slice A2 n2 c2))
      have HP := Lib.hid (h4.put (HZ.out.below BN4.out) (.bool (sg z)) (.slice A2 n2 c2))
      have HB := Lib.hid (below_fill (g := w.heap.size + 1 + 1) (below_two HW.out BN4.out) (by omega) (.bool (sg z)) (.slice A2 n2 c2))
      clear bm
      go_wp2
      refine bodyPost_ret (results_cell_row rfl _ _ (w.heap.size + 1 + 1) 25 #[.bool (sg z), .slice A2 n2 c2] (0, 0) _ rfl HF.out Tryd.underlying25 rfl int_size) rfl ?_
      exact ⟨A2, n2, c2, rfl, HP.out, HB.out⟩
    · have HS : RowKit.Hid (zOf s' (y.natAbs - x.natAbs) = z) := (zOf_sub HY.out HX.out (Ne.symm hs) (by omega)).trans ((Int.add_comm _ _).trans hz)
      have HK : RowKit.Hid (y.natAbs - x.natAbs < 4294967296 ^ K) := Nat.lt_of_le_of_lt (Nat.sub_le _ _) (Nat.lt_of_lt_of_le (lt_pow hy.nn) (Nat.pow_le_pow_right (by decide) (by omega)))
      have hba : x.natAbs ≤ y.natAbs := by omega
      clear hz HX HY
      have hs2 : (s == s') = false := by simpa using hs
      clear hs
      have b0 := below_new w (.cells #[Value.bool s, Value.slice A n c] 25)
      have b1 := below_new (w.alloc (.cells #[Value.bool s, Value.slice A n c] 25)) (.cells #[Value.bool s', Value.slice A' n' c'] 25)
      have bz := below_new ((w.alloc (.cells #[Value.bool s, Value.slice A n c] 25)).alloc (.cells #[Value.bool s', Value.slice A' n' c'] 25)) zbox
      have HW := Lib.hid (below_two (below_two b0 b1) bz)
      have HN := Lib.hid (hx.nn.below HW.out)
      have HM := Lib.hid (hy.nn.below HW.out)
      have r0 := ((row2_new w 25 (.bool s) (.slice A n c)).below b1).below bz
      have r1 := (row2_new (w.alloc (.cells #[Value.bool s, Value.slice A n c] 25)) 25 (.bool s') (.slice A' n' c')).below bz
      have rz : ZB (((w.alloc (.cells #[Value.bool s, Value.slice A n c] 25)).alloc (.cells #[Value.bool s', Value.slice A' n' c'] 25)).alloc zbox) ((w.alloc (.cells #[Value.bool s, Value.slice A n c] 25)).alloc (.cells #[Value.bool s', Value.slice A' n' c'] 25)).heap.size := row2_new ((w.alloc (.cells #[Value.bool s, Value.slice A n c] 25)).alloc (.cells #[Value.bool s', Value.slice A' n' c'] 25)) _ _ _
      simp only [World.size_alloc] at r1 rz
      clear b0 b1 bz hx hy
      go_enter Tryd.func8, Tryd.ntmps8
      go_wp2_with fail
      generalize ((w.alloc (.cells #[Value.bool s, Value.slice A n c] 25)).alloc (.cells #[Value.bool s', Value.slice A' n' c'] 25)).alloc zbox = w1 at *
      have HR0 := Lib.hid r0
      have c00 := r0.c0
      have c01 := r0.c1
      have HR1 := Lib.hid r1
      have c10 := r1.c0
      have c11 := r1.c1
      have HZ := Lib.hid rz
      clear r0 r1 rz
      go_wp2_with fail
      refine (sub_no HN.out HM.out (by omega) (by omega) (by omega)).mono ?_
      rintro e w2 ⟨Au, nu, cu, rfl, h2, bn2⟩
      have BN2 := Lib.hid bn2
      have d200 := (HR0.out.below BN2.out).c0
      have d201 := (HR0.out.below BN2.out).c1
      have d210 := (HR1.out.below BN2.out).c0
      have d211 := (HR1.out.below BN2.out).c1
      clear bn2
      clear h2
      go_wp2_with fail
      refine (sub_yes (HM.out.below BN2.out) (HN.out.below BN2.out) (by omega) (by omega) hba).mono ?_
      rintro e w3 ⟨A2, n2, c2, rfl, h3, bn3⟩
      have BN3 := Lib.hid (below_two BN2.out bn3)
      have d300 := (HR0.out.below BN3.out).c0
      have d301 := (HR0.out.below BN3.out).c1
      have d310 := (HR1.out.below BN3.out).c0
      have d311 := (HR1.out.below BN3.out).c1
      clear bn3
      go_wp2_with fail
      refine (signed_c (h3.relax HK.out) _ z (by first | exact HS.out | simpa using HS.out)).mono ?_
      rintro e w4 ⟨rfl, h4, bm⟩
      have BN4 := Lib.hid (below_two BN3.out bm)
      obtain ⟨e0, e1, f0, f1⟩ := (HZ.out.below BN4.out).cells
      have HF := Lib.hid ((HZ.out.below BN4.out).fill (.bool (sg z)) (.slice A2 n2 c2))
      have HP := Lib.hid (h4.put (HZ.out.below BN4.out) (.bool (sg z)) (.slice A2 n2 c2))
      have HB := Lib.hid (below_fill (g := w.heap.size + 1 + 1) (below_two HW.out BN4.out) (by omega) (.bool (sg z)) (.slice A2 n2 c2))
      clear bm
      go_wp2
      refine bodyPost_ret (results_cell_row rfl _ _ (w.heap.size + 1 + 1) 25 #[.bool (sg z), .slice A2 n2 c2] (0, 0) _ rfl HF.out Tryd.underlying25 rfl int_size) rfl ?_
      exact ⟨A2, n2, c2, rfl, HP.out, HB.out⟩
end

end Go.Proofs.YtgdchljbjnhchaaDoor

/- What package whole's Cmp answers, as a contract over memory: whole numbers in the shortest limbs, 0 not below 0. Conditions: sizes of at most so many limbs; the table of powers of ten where texts are made or read. -/
namespace Go.Proofs.YtgdchljbjnhchaaDoor
open Go.RowKit Limb
set_option linter.unusedVariables false
section
variable {w : World} {s s' : Bool} {A A' : Option Addr} {n c n' c' : Nat} {xs ys : List Nat} {x y : Int} {L L' : Nat}
set_option maxHeartbeats 4000000 in
set_option maxRecDepth 100000 in
theorem wCmp_c (hx : ZZ w s A n c xs x L) (hy : ZZ w s' A' n' c' ys y L') (h1 : L ≤ 100000) (h2 : L' ≤ 100000) (v : Int) (hv : cmpZ x y = v) :
    Calls Tryd.prog 14 #[.agg #[.bool s, .slice A n c], .agg #[.bool s', .slice A' n' c']] w fun e w' => e = .returned (.int .i64 v) ∧ Below w.heap.size w w' := by
  have b0 := below_new w (.cells #[Value.bool s, Value.slice A n c] 25)
  have b1 := below_new (w.alloc (.cells #[Value.bool s, Value.slice A n c] 25)) (.cells #[Value.bool s', Value.slice A' n' c'] 25)
  have HW := Lib.hid (below_two b0 b1)
  have HN := Lib.hid (hx.below HW.out)
  have HM := Lib.hid (hy.below HW.out)
  have r0 := (row2_new w 25 (.bool s) (.slice A n c)).below b1
  have r1 := row2_new (w.alloc (.cells #[Value.bool s, Value.slice A n c] 25)) 25 (.bool s') (.slice A' n' c')
  simp only [World.size_alloc] at r1
  clear b0 b1 hx hy
  by_cases hx0 : x < 0
  · by_cases hy0 : y < 0
    · have hx2 : sg x = true := sg_neg hx0
      have hy2 : sg y = true := sg_neg hy0
      have HX2 := Lib.hid hx2
      have HY2 := Lib.hid hy2
      clear hx2 hy2
      have HV : RowKit.Hid (cmpI y.natAbs x.natAbs = v) := by
        show _ = _
        rw [← hv]; exact cmp_abs_neg hx0 hy0
      clear hv hx0 hy0
      go_enter Tryd.func14, Tryd.ntmps14
      go_wp2_with fail
      generalize (w.alloc (.cells #[Value.bool s, Value.slice A n c] 25)).alloc (.cells #[Value.bool s', Value.slice A' n' c'] 25) = w1 at *
      have HR0 := Lib.hid r0
      have HR1 := Lib.hid r1
      have c00 := r0.c0
      have c01 := r0.c1
      have c10 := r1.c0
      have c11 := r1.c1
      clear r0 r1
      refine (isBelow_c HN.out (by omega) true HX2.out).mono ?_
      rintro e w2 ⟨rfl, bn⟩
      replace HN := Lib.hid (HN.out.below bn)
      replace HM := Lib.hid (HM.out.below bn)
      replace HW := Lib.hid (below_two HW.out bn)
      replace HR0 := Lib.hid (HR0.out.below bn)
      replace HR1 := Lib.hid (HR1.out.below bn)
      clear bn c00 c01 c10 c11
      have c00 := HR0.out.c0
      have c01 := HR0.out.c1
      have c10 := HR1.out.c0
      have c11 := HR1.out.c1
      go_wp2_with fail
      refine (isBelow_c HM.out (by omega) true HY2.out).mono ?_
      rintro e w3 ⟨rfl, bn⟩
      replace HN := Lib.hid (HN.out.below bn)
      replace HM := Lib.hid (HM.out.below bn)
      replace HW := Lib.hid (below_two HW.out bn)
      replace HR0 := Lib.hid (HR0.out.below bn)
      replace HR1 := Lib.hid (HR1.out.below bn)
      clear bn c00 c01 c10 c11
      have c00 := HR0.out.c0
      have c01 := HR0.out.c1
      have c10 := HR1.out.c0
      have c11 := HR1.out.c1
      go_wp2_with fail
      refine (cmp_c HM.out.nn HN.out.nn (by omega) (by omega) v HV.out).mono ?_
      rintro e w9 ⟨rfl, bn⟩
      replace HW := Lib.hid (below_two HW.out bn)
      clear bn c00 c01 c10 c11
      go_wp2
      go_ret
      exact ⟨rfl, HW.out⟩
    · have hx2 : sg x = true := sg_neg hx0
      have hy2 : sg y = false := sg_pos (by omega)
      have HX2 := Lib.hid hx2
      have HY2 := Lib.hid hy2
      clear hx2 hy2
      obtain rfl : v = -1 := by rw [← hv]; exact cmpZ_lt (by omega)
      clear hv hx0 hy0
      go_enter Tryd.func14, Tryd.ntmps14
      go_wp2_with fail
      generalize (w.alloc (.cells #[Value.bool s, Value.slice A n c] 25)).alloc (.cells #[Value.bool s', Value.slice A' n' c'] 25) = w1 at *
      have HR0 := Lib.hid r0
      have HR1 := Lib.hid r1
      have c00 := r0.c0
      have c01 := r0.c1
      have c10 := r1.c0
      have c11 := r1.c1
      clear r0 r1
      refine (isBelow_c HN.out (by omega) true HX2.out).mono ?_
      rintro e w2 ⟨rfl, bn⟩
      replace HN := Lib.hid (HN.out.below bn)
      replace HM := Lib.hid (HM.out.below bn)
      replace HW := Lib.hid (below_two HW.out bn)
      replace HR0 := Lib.hid (HR0.out.below bn)
      replace HR1 := Lib.hid (HR1.out.below bn)
      clear bn c00 c01 c10 c11
      have c00 := HR0.out.c0
      have c01 := HR0.out.c1
      have c10 := HR1.out.c0
      have c11 := HR1.out.c1
      go_wp2_with fail
      refine (isBelow_c HM.out (by omega) false HY2.out).mono ?_
      rintro e w3 ⟨rfl, bn⟩
      replace HN := Lib.hid (HN.out.below bn)
      replace HM := Lib.hid (HM.out.below bn)
      replace HW := Lib.hid (below_two HW.out bn)
      replace HR0 := Lib.hid (HR0.out.below bn)
      replace HR1 := Lib.hid (HR1.out.below bn)
      clear bn c00 c01 c10 c11
      have c00 := HR0.out.c0
      have c01 := HR0.out.c1
      have c10 := HR1.out.c0
      have c11 := HR1.out.c1
      go_wp2_with fail
      refine (isBelow_c HN.out (by omega) true HX2.out).mono ?_
      rintro e w4 ⟨rfl, bn⟩
      replace HN := Lib.hid (HN.out.below bn)
      replace HM := Lib.hid (HM.out.below bn)
      replace HW := Lib.hid (below_two HW.out bn)
      replace HR0 := Lib.hid (HR0.out.below bn)
      replace HR1 := Lib.hid (HR1.out.below bn)
      clear bn c00 c01 c10 c11
      have c00 := HR0.out.c0
      have c01 := HR0.out.c1
      have c10 := HR1.out.c0
      have c11 := HR1.out.c1
      go_wp2
      go_ret
      exact ⟨rfl, HW.out⟩
  · by_cases hy0 : y < 0
    · have hx2 : sg x = false := sg_pos (by omega)
      have hy2 : sg y = true := sg_neg hy0
      have HX2 := Lib.hid hx2
      have HY2 := Lib.hid hy2
      clear hx2 hy2
      obtain rfl : v = 1 := by rw [← hv]; exact cmpZ_gt (by omega)
      clear hv hx0 hy0
      go_enter Tryd.func14, Tryd.ntmps14
      go_wp2_with fail
      generalize (w.alloc (.cells #[Value.bool s, Value.slice A n c] 25)).alloc (.cells #[Value.bool s', Value.slice A' n' c'] 25) = w1 at *
      have HR0 := Lib.hid r0
      have HR1 := Lib.hid r1
      have c00 := r0.c0
      have c01 := r0.c1
      have c10 := r1.c0
      have c11 := r1.c1
      clear r0 r1
      refine (isBelow_c HN.out (by omega) false HX2.out).mono ?_
      rintro e w2 ⟨rfl, bn⟩
      replace HN := Lib.hid (HN.out.below bn)
      replace HM := Lib.hid (HM.out.below bn)
      replace HW := Lib.hid (below_two HW.out bn)
      replace HR0 := Lib.hid (HR0.out.below bn)
      replace HR1 := Lib.hid (HR1.out.below bn)
      clear bn c00 c01 c10 c11
      have c00 := HR0.out.c0
      have c01 := HR0.out.c1
      have c10 := HR1.out.c0
      have c11 := HR1.out.c1
      go_wp2_with fail
      refine (isBelow_c HN.out (by omega) false HX2.out).mono ?_
      rintro e w3 ⟨rfl, bn⟩
      replace HN := Lib.hid (HN.out.below bn)
      replace HM := Lib.hid (HM.out.below bn)
      replace HW := Lib.hid (below_two HW.out bn)
      replace HR0 := Lib.hid (HR0.out.below bn)
      replace HR1 := Lib.hid (HR1.out.below bn)
      clear bn c00 c01 c10 c11
      have c00 := HR0.out.c0
      have c01 := HR0.out.c1
      have c10 := HR1.out.c0
      have c11 := HR1.out.c1
      go_wp2_with fail
      refine (isBelow_c HM.out (by omega) true HY2.out).mono ?_
      rintro e w4 ⟨rfl, bn⟩
      replace HN := Lib.hid (HN.out.below bn)
      replace HM := Lib.hid (HM.out.below bn)
      replace HW := Lib.hid (below_two HW.out bn)
      replace HR0 := Lib.hid (HR0.out.below bn)
      replace HR1 := Lib.hid (HR1.out.below bn)
      clear bn c00 c01 c10 c11
      have c00 := HR0.out.c0
      have c01 := HR0.out.c1
      have c10 := HR1.out.c0
      have c11 := HR1.out.c1
      go_wp2
      go_ret
      exact ⟨rfl, HW.out⟩
    · have hx2 : sg x = false := sg_pos (by omega)
      have hy2 : sg y = false := sg_pos (by omega)
      have HX2 := Lib.hid hx2
      have HY2 := Lib.hid hy2
      clear hx2 hy2
      have HV : RowKit.Hid (cmpI x.natAbs y.natAbs = v) := by
        show _ = _
        rw [← hv]; exact cmp_abs_pos (by omega) (by omega)
      clear hv hx0 hy0
      go_enter Tryd.func14, Tryd.ntmps14
      go_wp2_with fail
      generalize (w.alloc (.cells #[Value.bool s, Value.slice A n c] 25)).alloc (.cells #[Value.bool s', Value.slice A' n' c'] 25) = w1 at *
      have HR0 := Lib.hid r0
      have HR1 := Lib.hid r1
      have c00 := r0.c0
      have c01 := r0.c1
      have c10 := r1.c0
      have c11 := r1.c1
      clear r0 r1
      refine (isBelow_c HN.out (by omega) false HX2.out).mono ?_
      rintro e w2 ⟨rfl, bn⟩
      replace HN := Lib.hid (HN.out.below bn)
      replace HM := Lib.hid (HM.out.below bn)
      replace HW := Lib.hid (below_two HW.out bn)
      replace HR0 := Lib.hid (HR0.out.below bn)
      replace HR1 := Lib.hid (HR1.out.below bn)
      clear bn c00 c01 c10 c11
      have c00 := HR0.out.c0
      have c01 := HR0.out.c1
      have c10 := HR1.out.c0
      have c11 := HR1.out.c1
      go_wp2_with fail
      refine (isBelow_c HN.out (by omega) false HX2.out).mono ?_
      rintro e w3 ⟨rfl, bn⟩
      replace HN := Lib.hid (HN.out.below bn)
      replace HM := Lib.hid (HM.out.below bn)
      replace HW := Lib.hid (below_two HW.out bn)
      replace HR0 := Lib.hid (HR0.out.below bn)
      replace HR1 := Lib.hid (HR1.out.below bn)
      clear bn c00 c01 c10 c11
      have c00 := HR0.out.c0
      have c01 := HR0.out.c1
      have c10 := HR1.out.c0
      have c11 := HR1.out.c1
      go_wp2_with fail
      refine (isBelow_c HM.out (by omega) false HY2.out).mono ?_
      rintro e w4 ⟨rfl, bn⟩
      replace HN := Lib.hid (HN.out.below bn)
      replace HM := Lib.hid (HM.out.below bn)
      replace HW := Lib.hid (below_two HW.out bn)
      replace HR0 := Lib.hid (HR0.out.below bn)
      replace HR1 := Lib.hid (HR1.out.below bn)
      clear bn c00 c01 c10 c11
      have c00 := HR0.out.c0
      have c01 := HR0.out.c1
      have c10 := HR1.out.c0
      have c11 := HR1.out.c1
      go_wp2_with fail
      refine (cmp_c HN.out.nn HM.out.nn (by omega) (by omega) v HV.out).mono ?_
      rintro e w9 ⟨rfl, bn⟩
      replace HW := Lib.hid (below_two HW.out bn)
      clear bn c00 c01 c10 c11
      go_wp2
      go_ret
      exact ⟨rfl, HW.out⟩
end

end Go.Proofs.YtgdchljbjnhchaaDoor

/- What package whole's Text answers, as a contract over memory: whole numbers in the shortest limbs, 0 not below 0. Conditions: sizes of at most so many limbs; the table of powers of ten where texts are made or read. -/
namespace Go.Proofs.YtgdchljbjnhchaaDoor
open Go.RowKit Limb
set_option linter.unusedVariables false
section
variable {w : World} {s s' : Bool} {A A' : Option Addr} {n c n' c' : Nat} {xs ys : List Nat} {x y : Int} {L L' : Nat}
set_option maxHeartbeats 4000000 in
set_option maxRecDepth 100000 in
theorem wText_c (T : Tab w) (hx : ZZ w s A n c xs x L) (h1 : L ≤ 10000) (S : ByteArray) (hS : strOf (zT x) = S) :
    Calls Tryd.prog 16 #[.agg #[.bool s, .slice A n c]] w fun e w' => e = .returned (.string S) ∧ Below w.heap.size w w' := by
  have b0 := below_new w (.cells #[Value.bool s, Value.slice A n c] 25)
  have HW := Lib.hid b0
  have HN := Lib.hid (hx.below b0)
  have r0 := row2_new w 25 (.bool s) (.slice A n c)
  have c00 := r0.c0
  have c01 := r0.c1
  have HT := Lib.hid T
  clear b0 hx T
  by_cases hx0 : x < 0
  · have hx2 : sg x = true := sg_neg hx0
    have HX2 := Lib.hid hx2
    clear hx2
    rw [zT_neg hx0] at hS
    obtain ⟨D, hD⟩ : ∃ D, strOf (decT x.natAbs) = D := ⟨_, rfl⟩
    have ed : (⟨#[45]⟩ : ByteArray) ++ D = S := by rw [← hD, minus_text]; exact hS
    have hDl : D.size ≤ 100001 := by
      have := decT_len_limbs (lt_pow HN.out.nn)
      rw [← hD, size_strOf]; omega
    have HD := Lib.hid hD
    clear hD hS
    clear hx0
    go_enter Tryd.func16, Tryd.ntmps16
    go_wp2_with fail
    refine (digText_c (HT.out.below HW.out) HN.out.nn h1 _ HD.out).mono ?_
    rintro e w2 ⟨rfl, bn⟩
    replace HN := Lib.hid (HN.out.below bn)
    replace HW := Lib.hid (below_two HW.out bn)
    replace r0 := r0.below bn
    clear c00 c01 bn
    have c00 := r0.c0
    have c01 := r0.c1
    clear r0
    go_wp2_with fail
    refine (isBelow_c HN.out (by omega) true HX2.out).mono ?_
    rintro e w3 ⟨rfl, bn⟩
    replace HW := Lib.hid (below_two HW.out bn)
    clear c00 c01 bn
    go_wp2
    go_ret
    exact ⟨rfl, HW.out⟩
  · have hx2 : sg x = false := sg_pos (by omega)
    have HX2 := Lib.hid hx2
    clear hx2
    rw [zT_pos (by omega)] at hS
    have HD := Lib.hid hS
    clear hS
    clear hx0
    go_enter Tryd.func16, Tryd.ntmps16
    go_wp2_with fail
    refine (digText_c (HT.out.below HW.out) HN.out.nn h1 _ HD.out).mono ?_
    rintro e w2 ⟨rfl, bn⟩
    replace HN := Lib.hid (HN.out.below bn)
    replace HW := Lib.hid (below_two HW.out bn)
    replace r0 := r0.below bn
    clear c00 c01 bn
    have c00 := r0.c0
    have c01 := r0.c1
    clear r0
    go_wp2_with fail
    refine (isBelow_c HN.out (by omega) false HX2.out).mono ?_
    rintro e w3 ⟨rfl, bn⟩
    replace HW := Lib.hid (below_two HW.out bn)
    clear c00 c01 bn
    go_wp2
    go_ret
    exact ⟨rfl, HW.out⟩
end

end Go.Proofs.YtgdchljbjnhchaaDoor

/- What package whole's Of answers, as a contract over memory: whole numbers in the shortest limbs, 0 not below 0. Conditions: sizes of at most so many limbs; the table of powers of ten where texts are made or read. -/
namespace Go.Proofs.YtgdchljbjnhchaaDoor
open Go.RowKit Limb
set_option linter.unusedVariables false
set_option maxHeartbeats 4000000 in
set_option maxRecDepth 100000 in
theorem wOf_c (v : Int) (h0 : -9223372036854775808 ≤ v) (h1 : v ≤ 9223372036854775807) (w : World) :
    Calls Tryd.prog 11 #[.int .i64 v] w fun e w' => ∃ A2 n2 c2, e = .returned (.agg #[.bool (sg v), .slice A2 n2 c2]) ∧ ZZ w' (sg v) A2 n2 c2 (limbs v.natAbs) v 2 ∧ Below w.heap.size w w' := by
  have HW := Lib.hid (below_new w zbox)
  have HZ : RowKit.Hid (ZB (w.alloc zbox) w.heap.size) := row2_new w _ _ _
  by_cases hv0 : v < 0
  · obtain ⟨u, hu⟩ : ∃ u, u = v.natAbs := ⟨_, rfl⟩
    have hlt : u < 18446744073709551616 := by omega
    have ec : IntKind.u64.wrap v = v + 18446744073709551616 := by rw [conv_u64 h0 h1, if_pos hv0]
    have en : IntKind.u64.wrap (-(v + 18446744073709551616)) = (u : Int) := by rw [IntKind.wrap_u64]; omega
    have HS : RowKit.Hid (zOf true u = v) := by
      show _ = _
      rw [hu]; unfold zOf; simp; omega
    have HSd : RowKit.Hid (zOf (decide (v < 0)) u = v) := by
      show _ = _
      rw [hu]; exact zz_zof
    have HC := Lib.hid (of_c u _ rfl hlt (w.alloc zbox))
    clear hu h0 h1
    go_enter Tryd.func11, Tryd.ntmps11
    go_wp2_with fail
    refine HC.out.mono ?_
    rintro e w2 ⟨A2, n2, c2, rfl, h2, bn⟩
    have BN2 := Lib.hid bn
    clear bn
    go_wp2_with fail
    refine (signed_c h2 _ v (by first | exact HS.out | simpa using HS.out | exact HSd.out)).mono ?_
    rintro e w4 ⟨rfl, h4, bm⟩
    have BN4 := Lib.hid (below_two BN2.out bm)
    obtain ⟨e0, e1, f0, f1⟩ := (HZ.out.below BN4.out).cells
    have HF := Lib.hid ((HZ.out.below BN4.out).fill (.bool (sg v)) (.slice A2 n2 c2))
    have HP := Lib.hid (h4.put (HZ.out.below BN4.out) (.bool (sg v)) (.slice A2 n2 c2))
    have HB := Lib.hid (below_fill (g := w.heap.size) (below_two HW.out BN4.out) (by omega) (.bool (sg v)) (.slice A2 n2 c2))
    clear bm
    go_wp2
    refine bodyPost_ret (results_cell_row rfl _ _ (w.heap.size) 25 #[.bool (sg v), .slice A2 n2 c2] (0, 0) _ rfl HF.out Tryd.underlying25 rfl int_size) rfl ?_
    exact ⟨A2, n2, c2, rfl, HP.out, HB.out⟩
  · obtain ⟨u, hu⟩ : ∃ u, u = v.natAbs := ⟨_, rfl⟩
    have hlt : u < 18446744073709551616 := by omega
    have ec : IntKind.u64.wrap v = (u : Int) := by rw [conv_u64 h0 h1, if_neg hv0]; omega
    have hv1 : 0 ≤ v := by omega
    have HS : RowKit.Hid (zOf false u = v) := by
      show _ = _
      rw [hu]; unfold zOf; simp; omega
    have HSd : RowKit.Hid (zOf (decide (v < 0)) u = v) := by
      show _ = _
      rw [hu]; exact zz_zof
    have HC := Lib.hid (of_c u _ rfl hlt (w.alloc zbox))
    clear hu h0 h1 hv0
    go_enter Tryd.func11, Tryd.ntmps11
    go_wp2_with fail
    refine HC.out.mono ?_
    rintro e w2 ⟨A2, n2, c2, rfl, h2, bn⟩
    have BN2 := Lib.hid bn
    clear bn
    go_wp2_with fail
    refine (signed_c h2 _ v (by first | exact HS.out | simpa using HS.out | exact HSd.out)).mono ?_
    rintro e w4 ⟨rfl, h4, bm⟩
    have BN4 := Lib.hid (below_two BN2.out bm)
    obtain ⟨e0, e1, f0, f1⟩ := (HZ.out.below BN4.out).cells
    have HF := Lib.hid ((HZ.out.below BN4.out).fill (.bool (sg v)) (.slice A2 n2 c2))
    have HP := Lib.hid (h4.put (HZ.out.below BN4.out) (.bool (sg v)) (.slice A2 n2 c2))
    have HB := Lib.hid (below_fill (g := w.heap.size) (below_two HW.out BN4.out) (by omega) (.bool (sg v)) (.slice A2 n2 c2))
    clear bm
    go_wp2
    refine bodyPost_ret (results_cell_row rfl _ _ (w.heap.size) 25 #[.bool (sg v), .slice A2 n2 c2] (0, 0) _ rfl HF.out Tryd.underlying25 rfl int_size) rfl ?_
    exact ⟨A2, n2, c2, rfl, HP.out, HB.out⟩

end Go.Proofs.YtgdchljbjnhchaaDoor

/- What package whole's Parse answers, as a contract over memory: whole numbers in the shortest limbs, 0 not below 0. Conditions: sizes of at most so many limbs; the table of powers of ten where texts are made or read. -/
namespace Go.Proofs.YtgdchljbjnhchaaDoor
open Go.RowKit Limb
set_option linter.unusedVariables false
set_option maxHeartbeats 4000000 in
set_option maxRecDepth 100000 in
theorem wParse_c (t : ByteArray) (w : World) (T : Tab w) (v : Bool) (hv : zOk (bytesOf t) = v) (z : Int) (hz : zV (bytesOf t) = z) :
    Calls Tryd.prog 15 #[.string t] w fun e w' => ∃ A2 n2 c2, e = .returned (.tuple #[.agg #[.bool (sg z), .slice A2 n2 c2], .bool v]) ∧ ZZ w' (sg z) A2 n2 c2 (limbs z.natAbs) z 223 ∧ Below w.heap.size w w' := by
  have HT := Lib.hid T
  have HW := Lib.hid (below_new w zbox)
  have HZ : RowKit.Hid (ZB (w.alloc zbox) w.heap.size) := row2_new w _ _ _
  clear T
  by_cases hm : (bytesOf t).head? = some 45
  · rw [zOk_minus hm] at hv
    rw [zV_minus hm] at hz
    have HC := Lib.hid (cutMinus_yes t hm (w.alloc zbox))
    clear hm
    obtain ⟨k, hk⟩ : ∃ k, numOk (bytesOf t).tail = k := ⟨_, rfl⟩
    obtain ⟨m, hm⟩ : ∃ m, numV (bytesOf t).tail = m := ⟨_, rfl⟩
    rw [hk, hm] at hv
    rw [hm] at hz
    have HK := Lib.hid hk
    have HM := Lib.hid hm
    have hk0 : k = false → m = 0 := fun h => by rw [← hm]; exact numV_no (hk.trans h)
    clear hk hm
    go_enter Tryd.func15, Tryd.ntmps15
    go_wp2_with fail
    refine HC.out.mono ?_
    rintro e w2 ⟨R, rfl, hR, rfl⟩
    have HK2 : RowKit.Hid (numOk (bytesOf R) = k) := by
      show _ = _
      rw [hR]; exact HK.out
    have HM2 : RowKit.Hid (numV (bytesOf R) = m) := by
      show _ = _
      rw [hR]; exact HM.out
    clear hR HK HM
    go_wp2_with fail
    refine (digParse_c R _ (HT.out.below HW.out) k HK2.out m HM2.out).mono ?_
    rintro e w3 ⟨A2, n2, c2, rfl, h2, bn⟩
    have BN3 := Lib.hid bn
    clear bn
    obtain ⟨e0, e1, f0, f1⟩ := (HZ.out.below BN3.out).cells
    by_cases hk1 : k = true
    · subst hk1
      by_cases em : m = 0
      · subst em
        have ev : v = false := by rw [← hv]; simp
        subst ev
        have ez : z = 0 := by rw [← hz]; rfl
        subst ez
        have HBits := Lib.hid (bits_c h2 (by decide) 0 rfl)
        clear hv hz hk0
        go_wp2_with fail
        refine HBits.out.mono ?_
        rintro e w4 ⟨rfl, rfl⟩
        have HF := Lib.hid ((HZ.out.below BN3.out).fill (.bool false) (.slice none 0 0))
        have HB := Lib.hid (below_fill (g := w.heap.size) (below_two HW.out BN3.out) (by omega) (.bool false) (.slice none 0 0))
        clear h2
        go_wp2
        refine bodyPost_ret (results_mixed rfl _ _ w.heap.size 25 #[.bool false, .slice none 0 0] (0, 0) _ (.bool false) rfl rfl HF.out Tryd.underlying25 rfl int_size) rfl ?_
        exact ⟨none, 0, 0, rfl, ⟨⟨IsN.nil _ _, rfl, Nat.le_refl _, Nat.zero_le _⟩, rfl⟩, HB.out⟩
      · have ev : v = true := by rw [← hv]; simp [em]
        subst ev
        obtain ⟨b, hb⟩ : ∃ b : Int, ((blen m : Nat) : Int) = b := ⟨_, rfl⟩
        have hb0 : (b == 0) = false := by
          rw [beq_eq_false_iff_ne, ← hb]
          have := mt blen_eq_zero.1 em
          omega
        have HBits := Lib.hid (bits_c h2 (by decide) b hb)
        have HS : RowKit.Hid (zOf true m = z) := by
          show _ = _
          rw [← hz]; rfl
        clear hv hz hk0 hb
        go_wp2_with fail
        refine HBits.out.mono ?_
        rintro e w4 ⟨rfl, rfl⟩
        go_wp2_with fail
        refine (signed_c h2 _ z (by first | exact HS.out | simpa using HS.out)).mono ?_
        rintro e w5 ⟨rfl, h4, bm⟩
        have BN4 := Lib.hid (below_two BN3.out bm)
        clear e0 e1 f0 f1
        obtain ⟨e0, e1, f0, f1⟩ := (HZ.out.below BN4.out).cells
        have HF := Lib.hid ((HZ.out.below BN4.out).fill (.bool (sg z)) (.slice A2 n2 c2))
        have HP := Lib.hid (h4.put (HZ.out.below BN4.out) (.bool (sg z)) (.slice A2 n2 c2))
        have HB := Lib.hid (below_fill (g := w.heap.size) (below_two HW.out BN4.out) (by omega) (.bool (sg z)) (.slice A2 n2 c2))
        clear bm
        go_wp2
        refine bodyPost_ret (results_mixed rfl _ _ w.heap.size 25 #[.bool (sg z), .slice A2 n2 c2] (0, 0) _ (.bool true) rfl rfl HF.out Tryd.underlying25 rfl int_size) rfl ?_
        exact ⟨A2, n2, c2, rfl, HP.out, HB.out⟩
    · have hk2 : k = false := by simpa using hk1
      have em : m = 0 := hk0 hk2
      subst hk2
      subst em
      have ev : v = false := by rw [← hv]; rfl
      subst ev
      have ez : z = 0 := by rw [← hz]; rfl
      subst ez
      clear hv hz hk0 hk1
      have HF := Lib.hid ((HZ.out.below BN3.out).fill (.bool false) (.slice none 0 0))
      have HB := Lib.hid (below_fill (g := w.heap.size) (below_two HW.out BN3.out) (by omega) (.bool false) (.slice none 0 0))
      clear h2
      go_wp2
      refine bodyPost_ret (results_mixed rfl _ _ w.heap.size 25 #[.bool false, .slice none 0 0] (0, 0) _ (.bool false) rfl rfl HF.out Tryd.underlying25 rfl int_size) rfl ?_
      exact ⟨none, 0, 0, rfl, ⟨⟨IsN.nil _ _, rfl, Nat.le_refl _, Nat.zero_le _⟩, rfl⟩, HB.out⟩
  · rw [zOk_plain hm] at hv
    rw [zV_plain hm] at hz
    have HC := Lib.hid (cutMinus_no t hm (w.alloc zbox))
    clear hm
    obtain ⟨k, hk⟩ : ∃ k, numOk (bytesOf t) = k := ⟨_, rfl⟩
    obtain ⟨m, hm⟩ : ∃ m, numV (bytesOf t) = m := ⟨_, rfl⟩
    rw [hk] at hv
    rw [hm] at hz
    have HK := Lib.hid hk
    have HM := Lib.hid hm
    have hk0 : k = false → m = 0 := fun h => by rw [← hm]; exact numV_no (hk.trans h)
    clear hk hm
    go_enter Tryd.func15, Tryd.ntmps15
    go_wp2_with fail
    refine HC.out.mono ?_
    rintro e w2 ⟨rfl, rfl⟩
    have HK2 := HK
    have HM2 := HM
    go_wp2_with fail
    refine (digParse_c t _ (HT.out.below HW.out) k HK2.out m HM2.out).mono ?_
    rintro e w3 ⟨A2, n2, c2, rfl, h2, bn⟩
    have BN3 := Lib.hid bn
    clear bn
    obtain ⟨e0, e1, f0, f1⟩ := (HZ.out.below BN3.out).cells
    by_cases hk1 : k = true
    · subst hk1
      have ev : v = true := hv.symm
      subst ev
      have HS : RowKit.Hid (zOf false m = z) := by
        show _ = _
        rw [← hz]; rfl
      clear hv hz hk0
      go_wp2_with fail
      refine (signed_c h2 _ z (by first | exact HS.out | simpa using HS.out)).mono ?_
      rintro e w5 ⟨rfl, h4, bm⟩
      have BN4 := Lib.hid (below_two BN3.out bm)
      clear e0 e1 f0 f1
      obtain ⟨e0, e1, f0, f1⟩ := (HZ.out.below BN4.out).cells
      have HF := Lib.hid ((HZ.out.below BN4.out).fill (.bool (sg z)) (.slice A2 n2 c2))
      have HP := Lib.hid (h4.put (HZ.out.below BN4.out) (.bool (sg z)) (.slice A2 n2 c2))
      have HB := Lib.hid (below_fill (g := w.heap.size) (below_two HW.out BN4.out) (by omega) (.bool (sg z)) (.slice A2 n2 c2))
      clear bm
      go_wp2
      refine bodyPost_ret (results_mixed rfl _ _ w.heap.size 25 #[.bool (sg z), .slice A2 n2 c2] (0, 0) _ (.bool true) rfl rfl HF.out Tryd.underlying25 rfl int_size) rfl ?_
      exact ⟨A2, n2, c2, rfl, HP.out, HB.out⟩
    · have hk2 : k = false := by simpa using hk1
      have em : m = 0 := hk0 hk2
      subst hk2
      subst em
      have ev : v = false := by rw [← hv]
      subst ev
      have ez : z = 0 := by rw [← hz]; rfl
      subst ez
      clear hv hz hk0 hk1
      have HF := Lib.hid ((HZ.out.below BN3.out).fill (.bool false) (.slice none 0 0))
      have HB := Lib.hid (below_fill (g := w.heap.size) (below_two HW.out BN3.out) (by omega) (.bool false) (.slice none 0 0))
      clear h2
      go_wp2
      refine bodyPost_ret (results_mixed rfl _ _ w.heap.size 25 #[.bool false, .slice none 0 0] (0, 0) _ (.bool false) rfl rfl HF.out Tryd.underlying25 rfl int_size) rfl ?_
      exact ⟨none, 0, 0, rfl, ⟨⟨IsN.nil _ _, rfl, Nat.le_refl _, Nat.zero_le _⟩, rfl⟩, HB.out⟩

end Go.Proofs.YtgdchljbjnhchaaDoor

/- All contracts of package whole. No condition. -/
namespace Go.Proofs.YtgdchljbjnhchaaDoor
end Go.Proofs.YtgdchljbjnhchaaDoor
