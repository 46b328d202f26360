/- What package digits' Parse and Ten answer, as contracts over memory, where its table of powers of ten reads as it is laid. Condition: the table (Tab). -/
import Derived.Test.YtpkjooiddejgpaaDoorDigD
import Derived.Test.YtpkjooiddejgpaaDoorShelf
namespace Go.Proofs.YtpkjooiddejgpaaDoor
open Go.RowKit Limb
set_option linter.unusedVariables false

theorem bytesOf_extract (s : ByteArray) (i j : Nat) : bytesOf (s.extract i j) = ((bytesOf s).drop i).take (j - i) := by
  unfold bytesOf
  rw [ByteArray.data_extract, Array.toList_extract, List.extract_eq_take_drop, List.map_take, List.map_drop]

/-- What the library's reader answers of at most nine bytes: a number, or none, with an error. -/
def Red (l : List Nat) (v : Nat) (e : Value) : Prop := (allDig l = true ∧ v = decV l ∧ e = .nilIface) ∨ (allDig l = false ∧ ∃ t p, e = .iface t p)

theorem readUint_yes (s : ByteArray) (w : World) (h0 : 1 ≤ s.size) (h9 : s.size ≤ 9) (h : allDig (bytesOf s) = true) (v : Nat) (hv : decV (bytesOf s) = v) :
    Calls Tryd.prog 22 #[.string s, .int .i64 10, .int .i64 32] w fun e w' => e = .returned (.tuple #[.int .u64 (v : Int), .nilIface]) ∧ Below w.heap.size w w' := by
  have hl : (s.data.toList : List UInt8) ≠ [] := by
    intro e
    have : s.size = 0 := by show s.data.size = 0; rw [← Array.length_toList, e]; rfl
    omega
  have hs : s.data.toList.length = s.size := Array.length_toList
  have hp := parseB_yes hl (by rw [hs]; exact h9) h
  refine (Any.strconv_ParseUint_10_at32_ok Tryd.laysPu14 s (by omega) (decV (bytesOf s)) hp w).mono ?_
  rintro e w' ⟨rfl, hW⟩
  rw [hv]
  refine ⟨rfl, ?_⟩
  rcases hW with rfl | rfl
  · exact Below.refl _ _
  · exact Lib.bytesWorld_below _ _ _

theorem readUint_no (s : ByteArray) (w : World) (T : Tab w) (h9 : s.size ≤ 9) (h : allDig (bytesOf s) = false) :
    Calls Tryd.prog 22 #[.string s, .int .i64 10, .int .i64 32] w fun e w' => ∃ t p, e = .returned (.tuple #[.int .u64 0, .iface t (.pointer (some p))]) ∧ Below w.heap.size w w' := by
  have hs : s.data.toList.length = s.size := Array.length_toList
  have hp := parseB_no (l := s.data.toList) (by rw [hs]; exact h9) h
  obtain ⟨te, pe, he⟩ := T.2
  refine (Any.strconv_ParseUint_10_at32_syntax Tryd.laysPu14 s (by omega) hp _ w he (.inr ⟨te, pe, rfl⟩)).mono ?_
  rintro e w' ⟨N, rfl, _, _, hb⟩
  exact ⟨_, _, rfl, hb⟩

theorem ten_limb {k : Nat} (h : k ≤ 9) : 10 ^ k < 4294967296 := Nat.lt_of_le_of_lt (Nat.pow_le_pow_right (by decide) h) (by decide)

theorem powV_tens {m : Nat} (h : m ≤ 222) : powV 1000000000 (m : Int) = some (1000000000 ^ m) := by
  refine powV_small ?_ fun k hk => ?_
  · exact blen_le (by exact Nat.lt_of_le_of_lt h (by decide))
  · rw [show (1000000000 : Nat) = 10 ^ 9 from rfl, ← Nat.pow_mul]
    exact dec_room_lt (by omega)

theorem powTens {w : World} {A : Option Addr} {n c : Nat} {xs : List Nat} {L : Nat} (hx : NN w A n c xs 1000000000 L) (h1 : L ≤ 10000000) {q : Nat} (hq : q ≤ 222) :
    Calls Tryd.prog 26 #[.slice A n c, .int .i64 (q : Int)] w fun e w' => ∃ A2 n2 c2, e = .returned (.tuple #[.slice A2 n2 c2, .bool true]) ∧ NN w' A2 n2 c2 (limbs (1000000000 ^ q)) (1000000000 ^ q) 256 ∧ Below w.heap.size w w' := by
  have := mulPow_c hx h1 (q : Int) (by omega) (by omega) _ (powV_tens hq)
  exact this

set_option maxHeartbeats 2000000 in
set_option maxRecDepth 4000 in
theorem digTen_yes (n : Nat) (V : Int) (hV : V = n) (h1 : n ≤ 2000) (w : World) (T : Tab w) :
    Calls Tryd.prog 11 #[.int .i64 V] w fun e w' => ∃ A1 n1 c1, e = .returned (.tuple #[.slice A1 n1 c1, .bool true]) ∧ NN w' A1 n1 c1 (limbs (10 ^ n)) (10 ^ n) 223 ∧ Below w.heap.size w w' := by
  subst hV
  obtain ⟨q, hq⟩ : ∃ q, q = n / 9 := ⟨_, rfl⟩
  obtain ⟨r, hr⟩ : ∃ r, r = n % 9 := ⟨_, rfl⟩
  have eq1 : (n : Int) / 9 = (q : Int) := by omega
  have er1 : (n : Int) % 9 = (r : Int) := by omega
  have hq2 : q ≤ 222 := by omega
  have hr2 : r < 9 := by omega
  have HE : RowKit.Hid (1000000000 ^ q * 10 ^ r = 10 ^ n) := by
    show _ = _
    rw [show (1000000000 : Nat) = 10 ^ 9 from rfl, ← Nat.pow_mul, ← Nat.pow_add]
    congr 1
    omega
  have HL : RowKit.Hid (10 ^ n < 4294967296 ^ 223) := dec_room_lt (by omega)
  have hc9 : w.cell? ⟨0, 9, none⟩ = some (.int .u32 1000000000) := T.1 9 (by decide)
  have HT := Lib.hid T
  clear T hq hr
  go_enter Tryd.func11, Tryd.ntmps11
  go_wp2_with fail
  refine (of_c 1000000000 _ rfl (by decide) w).mono ?_
  rintro e w1 ⟨A1, n1, c1, rfl, ha, bn⟩
  have HA := Lib.hid ha
  have HW := Lib.hid bn
  clear hc9 ha bn
  go_wp2_with fail
  refine (powTens HA.out (by decide) hq2).mono ?_
  rintro e w2 ⟨A2, n2, c2, rfl, hb, bn⟩
  have HB := Lib.hid hb
  have HW2 := Lib.hid (below_two HW.out bn)
  have hcr := (HT.out.below HW2.out).1 r (by omega)
  obtain ⟨p, hp⟩ : ∃ p, p = 10 ^ r := ⟨_, rfl⟩
  have hpl : p < 4294967296 := by rw [hp]; exact ten_limb (by omega)
  rw [← hp] at hcr
  have HP := Lib.hid hp
  clear hb bn hp HA HW
  go_wp2_with fail
  refine (mulSmall_c HB.out p _ rfl hpl (by decide)).mono ?_
  rintro e w3 ⟨A3, n3, c3, rfl, hm, bn⟩
  have HM : RowKit.Hid (NN w3 A3 n3 c3 (limbs (10 ^ n)) (10 ^ n) 223) := by
    show NN _ _ _ _ _ _ _
    rw [HP.out, HE.out] at hm
    exact hm.relax HL.out
  have HW3 := Lib.hid (below_two HW2.out bn)
  clear hm bn HB HW2 hcr
  go_wp2
  go_ret2
  exact ⟨A3, n3, c3, rfl, HM.out, HW3.out⟩

theorem digTen_no (V : Int) (h1 : V < 0 ∨ 2000 < V) (h2 : -9223372036854775808 ≤ V) (h3 : V ≤ 9223372036854775807) (w : World) :
    Calls Tryd.prog 11 #[.int .i64 V] w fun e w' => ∃ A1 c1, e = .returned (.tuple #[.slice A1 0 c1, .bool false]) ∧ Below w.heap.size w w' := by
  rcases h1 with h | h
  · go_enter Tryd.func11, Tryd.ntmps11
    go_wp2
    go_ret2
    exact ⟨none, 0, rfl, Below.refl _ _⟩
  · go_enter Tryd.func11, Tryd.ntmps11
    have h0 : 0 ≤ V := by omega
    go_wp2
    go_ret2
    exact ⟨none, 0, rfl, Below.refl _ _⟩

/-- How long a text is. -/
def strLen (v : Value) : Nat := match v with
  | .string s => s.size
  | _ => 0

theorem numOk_part {l : List Nat} {i k : Nat} (h : allDig ((l.drop i).take k) = false) : numOk l = false := by
  have h2 : allDig l = false := by
    rw [Bool.eq_false_iff]
    intro h3
    have h4 : allDig ((l.drop i).take k) = true := allDig_iff.2 fun x hx => allDig_iff.1 h3 x (List.mem_of_mem_drop (List.mem_of_mem_take hx))
    rw [h] at h4; cases h4
  unfold numOk
  rw [h2]; simp

set_option maxHeartbeats 4000000 in
set_option maxRecDepth 4000 in
theorem digParse_c (s : ByteArray) (w : World) (T : Tab w) (v : Bool) (hv : numOk (bytesOf s) = v) (m : Nat) (hm : numV (bytesOf s) = m) :
    Calls Tryd.prog 9 #[.string s] w fun e w' => ∃ A1 n1 c1, e = .returned (.tuple #[.slice A1 n1 c1, .bool v]) ∧ NN w' A1 n1 c1 (limbs m) m 223 ∧ Below w.heap.size w w' := by
  have HT := Lib.hid T
  have HV := Lib.hid hv
  have HM := Lib.hid hm
  have hl := length_bytesOf s
  have HL := Lib.hid hl
  clear T hv hm hl
  by_cases h0 : s.size = 0 ∨ 2000 < s.size
  · have hno : numOk (bytesOf s) = false := numOk_len (by rw [HL.out]; exact h0)
    have hr : RowKit.Hid (v = false ∧ limbs m = [] ∧ m = 0) := by
      have h3 : m = 0 := by rw [← HM.out]; exact numV_no hno
      exact ⟨by rw [← HV.out, hno], by rw [h3]; exact limbs_zero, h3⟩
    clear hno
    rcases h0 with h0 | h0
    · have h00 : ((s.size : Int) == 0) = true := by rw [beq_iff_eq]; omega
      go_enter Tryd.func9, Tryd.ntmps9
      go_wp2
      go_ret2
      obtain ⟨rfl, h4, h5⟩ := hr.out
      exact ⟨none, 0, 0, rfl, by rw [h4, h5]; exact ⟨IsN.nil _ _, rfl, Nat.le_refl _, Nat.zero_le _⟩, Below.refl _ _⟩
    · have h00 : ((s.size : Int) == 0) = false := by rw [beq_eq_false_iff_ne]; omega
      have h01 : (2000 : Int) < (s.size : Int) := by omega
      go_enter Tryd.func9, Tryd.ntmps9
      go_wp2
      go_ret2
      obtain ⟨rfl, h4, h5⟩ := hr.out
      exact ⟨none, 0, 0, rfl, by rw [h4, h5]; exact ⟨IsN.nil _ _, rfl, Nat.le_refl _, Nat.zero_le _⟩, Below.refl _ _⟩
  · have h1 : 1 ≤ s.size := by omega
    have h2 : s.size ≤ 2000 := by omega
    have h00 : ((s.size : Int) == 0) = false := by rw [beq_eq_false_iff_ne]; omega
    have h01 : (s.size : Int) ≤ 2000 := by omega
    have HP := Lib.hid (PInv.start (bytesOf s))
    clear h0
    go_enter Tryd.func9, Tryd.ntmps9
    have HN : RowKit.Hid (NN w none 0 0 (limbs 0) 0 223) := ⟨by rw [limbs_zero]; exact IsN.nil _ _, by rw [limbs_zero]; rfl, Nat.le_refl _, Nat.zero_le _⟩
    have HW := Lib.hid (Below.refl w.heap.size w)
    go_wp2
    go_loopw [0, 4] (fun sv ov wr => ∃ (i t : Nat) (S : ByteArray) (A1 : Option Addr) (n1 c1 : Nat), sv = .string S ∧ ov = .slice A1 n1 c1 ∧ RowKit.Hid (bytesOf S = (bytesOf s).drop i ∧ S.size + i = s.size) ∧ RowKit.Hid (PInv (bytesOf s) i t) ∧ RowKit.Hid (NN wr A1 n1 c1 (limbs t) t 223) ∧ RowKit.Hid (Below w.heap.size w wr)) (fun sv _ _ => strLen sv)
    case atStart => exact ⟨0, 0, s, none, 0, 0, rfl, rfl, ⟨rfl, rfl⟩, HP, HN, HW⟩
    case round =>
      clear HP HN HW
      obtain ⟨i, t, S, A1, n1, c1, rfl, rfl, HS, HP, HN, HW⟩ := hrel
      by_cases hS : S.size = 0
      · have hS0 : ¬ (0 : Int) < (S.size : Int) := by omega
        have hi : i = (bytesOf s).length := by rw [HL.out]; have := HS.out.2; omega
        have hp := HP.out
        unfold PInv at hp
        rw [hi, List.take_length] at hp
        have hok : numOk (bytesOf s) = true := numOk_good (by rw [HL.out]; exact h1) (by rw [HL.out]; exact h2) hp.1
        have hr : RowKit.Hid (v = true ∧ t = m) := ⟨by rw [← HV.out, hok], by rw [hp.2, ← HM.out, numV_yes hok]⟩
        clear hi hp hok
        go_wp2
        go_ret2
        obtain ⟨rfl, rfl⟩ := hr.out
        exact ⟨_, _, _, rfl, HN.out, HW.out⟩
      · have hS0 : (0 : Int) < (S.size : Int) := by omega
        obtain ⟨k, hk⟩ : ∃ k, k = min S.size 9 := ⟨_, rfl⟩
        have ek : min (S.size : Int) 9 = (k : Int) := by omega
        have hk1 : 1 ≤ k := by omega
        have hk9 : k ≤ 9 := by omega
        have hkS : k ≤ S.size := by omega
        obtain ⟨G, hG⟩ : ∃ G, S.extract 0 k = G := ⟨_, rfl⟩
        have hb : bytesOf G = ((bytesOf s).drop i).take k := by rw [← hG, bytesOf_extract, HS.out.1]; rfl
        have hGs : G.size = k := by
          rw [← length_bytesOf, hb, List.length_take, List.length_drop, HL.out]
          have := HS.out.2
          omega
        have HG := Lib.hid hb
        clear hb hk
        by_cases hd : allDig (bytesOf G) = true
        · obtain ⟨d, hdv⟩ : ∃ d, decV (bytesOf G) = d := ⟨_, rfl⟩
          have HC := Lib.hid (readUint_yes G wr (by omega) (by omega) hd d hdv)
          have hst := Limb.PInv.group HP.out (m := k) (by rw [HL.out]; have := HS.out.2; omega) (by rw [← HG.out]; exact hd)
          rw [← HG.out, hdv] at hst
          have hlt := hst.lt (by rw [HL.out]; exact h2)
          have hdl : d < 1000000000 := by
            rw [← hdv]
            have h3 := decV_lt hd
            rw [length_bytesOf, hGs] at h3
            exact Nat.lt_of_lt_of_le h3 (Nat.pow_le_pow_right (by decide) hk9)
          obtain ⟨p, hp⟩ : ∃ p, p = 10 ^ k := ⟨_, rfl⟩
          have hpl : p < 4294967296 := by rw [hp]; exact ten_limb hk9
          rw [← hp] at hst hlt
          have Hp := Lib.hid hp
          have HT2 := Lib.hid hst
          have Hlt := Lib.hid hlt
          obtain ⟨S2, hS2⟩ : ∃ S2, S.extract k S.size = S2 := ⟨_, rfl⟩
          have HS2 : RowKit.Hid (bytesOf S2 = (bytesOf s).drop (i + k) ∧ S2.size + (i + k) = s.size) := by
            have h3 : bytesOf S2 = (bytesOf s).drop (i + k) := by
              rw [← hS2, bytesOf_extract, HS.out.1, List.drop_drop]
              refine List.take_of_length_le ?_
              rw [List.length_drop, HL.out]
              have := HS.out.2
              omega
            refine ⟨h3, ?_⟩
            rw [← length_bytesOf, h3, List.length_drop, HL.out]
            have := HS.out.2
            omega
          have hS2l : S2.size < S.size := by have h3 := HS2.out.2; have h4 := HS.out.2; omega
          have HS2l := Lib.hid hS2l
          clear hd hdv hst hlt hp hS2l
          go_wp2_with fail
          refine HC.out.mono ?_
          rintro e w2 ⟨rfl, bn⟩
          have HN2 := Lib.hid (HN.out.below bn)
          have HW2 := Lib.hid (below_two HW.out bn)
          have hcell : w2.cell? ⟨0, k, none⟩ = some (.int .u32 (p : Int)) := by rw [Hp.out]; exact (HT.out.below HW2.out).1 k (by omega)
          clear bn HC HN HW
          go_wp2_with fail
          refine (mulSmall_c HN2.out p _ rfl hpl (by decide)).mono ?_
          rintro e w3 ⟨A3, n3, c3, rfl, hm, bn⟩
          have HM3 := Lib.hid hm
          have HW3 := Lib.hid (below_two HW2.out bn)
          clear hm bn HN2 HW2 hcell
          go_wp2_with fail
          refine (of_c d _ rfl (by omega) w3).mono ?_
          rintro e w4 ⟨A4, n4, c4, rfl, ho, bn⟩
          have HM4 := Lib.hid (HM3.out.below bn)
          have HO4 := Lib.hid ho
          have HW4 := Lib.hid (below_two HW3.out bn)
          clear ho bn HM3 HW3
          go_wp2_with fail
          refine (add_c HM4.out HO4.out 225 (by decide) (by decide) (by decide)).mono ?_
          rintro e w5 ⟨A5, n5, c5, rfl, hs, bn⟩
          have HN5 := Lib.hid (hs.relax Hlt.out)
          have HW5 := Lib.hid (below_two HW4.out bn)
          clear hs bn HM4 HO4 HW4
          go_wp2
          go_roundw
          case rel => exact ⟨i + k, t * p + d, S2, A5, n5, c5, rfl, rfl, HS2, HT2, HN5, HW5⟩
          case measure => exact HS2l.out
        · have hd2 : allDig (bytesOf G) = false := by simpa using hd
          have hno : numOk (bytesOf s) = false := numOk_part (by rw [← HG.out]; exact hd2)
          have hr : RowKit.Hid (v = false ∧ limbs m = [] ∧ m = 0) := by
            have h3 : m = 0 := by rw [← HM.out]; exact numV_no hno
            exact ⟨by rw [← HV.out, hno], by rw [h3]; exact limbs_zero, h3⟩
          have HC := Lib.hid (readUint_no G wr (HT.out.below HW.out) (by omega) hd2)
          clear hno hd hd2
          go_wp2_with fail
          refine HC.out.mono ?_
          rintro e w2 ⟨tt, p, rfl, bn⟩
          have HW2 := Lib.hid (below_two HW.out bn)
          clear bn HC
          go_wp2
          go_ret2
          obtain ⟨rfl, h4, h5⟩ := hr.out
          exact ⟨none, 0, 0, rfl, by rw [h4, h5]; exact ⟨IsN.nil _ _, rfl, Nat.le_refl _, Nat.zero_le _⟩, HW2.out⟩

end Go.Proofs.YtpkjooiddejgpaaDoor
