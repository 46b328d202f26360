/- Part 3 of the texts that the statements of this seat lean on: mathematics, and what functions answer, as contracts over memory; each part says its own conditions. -/
import Derived.Test.YtheaepceghnkpaaGreatDoorM2
import Derived.Test.YtheaepceghnkpaaGreatDoorShelf
import Derived.Lib.IndexLaws
import Derived.BigQuiet
import Derived.Deep.QuietTactic
import Derived.Shelf.Small.Utf8
import Derived.Lib.TrimU
import Derived.Lib.OthersKept
import Derived.WalkMore
import Derived.Laws.CopyOwn
/- What strings.Cut at one byte answers, as contracts over memory. Condition: a text of at most 10^9 bytes. -/
namespace Go.Proofs.YtheaepceghnkpaaGreatDoor
open Go.RowKit Limb
set_option linter.unusedVariables false
theorem indexByte_miss : ∀ {l : List UInt8} {c : UInt8}, c ∉ l → Lib.indexByte l c = -1
 | [], _, _ => rfl
 | b :: l, c, h => by
  have h1 : (b == c) = false := by rw [beq_eq_false_iff_ne]; intro e; exact h (by simp [e])
  have h2 : c ∉ l := fun e => h (List.mem_cons_of_mem _ e)
  rw [Lib.indexByte, h1, indexByte_miss h2]
  rfl
theorem indexByte_hit : ∀ {a : List UInt8} {c : UInt8} (b : List UInt8), c ∉ a → Lib.indexByte (a ++ c :: b) c = (a.length : Int)
 | [], c, b, _ => by
  show Lib.indexByte (c :: b) c = _
  rw [Lib.indexByte, beq_self_eq_true]
  rfl
 | x :: a, c, b, h => by
  have h1 : (x == c) = false := by rw [beq_eq_false_iff_ne]; intro e; exact h (by simp [e])
  have h2 : c ∉ a := fun e => h (List.mem_cons_of_mem _ e)
  show Lib.indexByte (x :: (a ++ c :: b)) c = _
  rw [Lib.indexByte, h1, indexByte_hit b h2]
  have h3 : ((a.length : Int) == -1) = false := by rw [beq_eq_false_iff_ne]; omega
  rw [h3, List.length_cons]
  simp only [Bool.false_eq_true, if_false]
  omega
theorem index_bytes_miss {s : ByteArray} {c : UInt8} (h : c.toNat ∉ bytesOf s) : Lib.indexByte s.data.toList c = -1 :=
 indexByte_miss fun e => h (List.mem_map_of_mem e)
theorem index_bytes_hit {s : ByteArray} {c : UInt8} {a b : List Nat} (h : bytesOf s = a ++ c.toNat :: b) (hn : c.toNat ∉ a) : Lib.indexByte s.data.toList c = (a.length : Int) := by
 obtain ⟨l1, l2, e1, e2, e3⟩ := List.map_eq_append_iff.1 h
 obtain ⟨y, l3, e4, e5, e6⟩ := List.map_eq_cons_iff.1 e3
 have e7 : y = c := UInt8.toNat_inj.1 e5
 subst e7
 rw [e1, e4, indexByte_hit l3 (fun e => hn (by rw [← e2]; exact List.mem_map_of_mem e)), ← e2, List.length_map]
set_option maxHeartbeats 1000000 in
set_option maxRecDepth 4000 in
theorem sCut_hit (s : ByteArray) (hs : s.size ≤ 1000000000) (c : UInt8) (a b : List Nat) (h : bytesOf s = a ++ c.toNat :: b) (hn : c.toNat ∉ a) (w : World) :
 Calls Tryz.prog 110 #[.string s, .string ⟨#[c]⟩] w fun e w' => ∃ S1 S2, e = .returned (.tuple #[.string S1, .string S2, .bool true]) ∧ bytesOf S1 = a ∧ bytesOf S2 = b ∧ Below w.heap.size w w' := by
 have hi := index_bytes_hit h hn
 have hl : a.length + 1 + b.length = s.size := by rw [← length_bytesOf, h, List.length_append, List.length_cons]; omega
 obtain ⟨k, hk⟩ : ∃ k, a.length = k := ⟨_, rfl⟩
 rw [hk] at hi hl
 have hk1 : k ≤ s.size := by omega
 have hk2 : k + 1 ≤ s.size := by omega
 have HI := Lib.hid hi
 obtain ⟨S1, hS1⟩ : ∃ S1, s.extract 0 k = S1 := ⟨_, rfl⟩
 obtain ⟨S2, hS2⟩ : ∃ S2, s.extract (k + 1) s.size = S2 := ⟨_, rfl⟩
 have H1 : RowKit.Hid (bytesOf S1 = a) := by
  show _ = _
  rw [← hS1, bytesOf_extract, List.drop_zero, Nat.sub_zero, h, ← hk, List.take_left]
 have H2 : RowKit.Hid (bytesOf S2 = b) := by
  show _ = _
  rw [← hS2, bytesOf_extract, h, ← hk]
  have e : (a ++ c.toNat :: b).drop (a.length + 1) = b := by
   rw [← List.drop_drop, List.drop_left]; rfl
  rw [e]
  exact List.take_of_length_le (by omega)
 have HN := Lib.hid (below_drewN (Below.refl w.heap.size w))
 have hk3 : (0 : Int) ≤ (k : Int) := by omega
 have hk4 : (k : Int) ≤ (s.size : Int) := by omega
 have hk5 : (0 : Int) ≤ (k : Int) + 1 := by omega
 have hk6 : (k : Int) + 1 ≤ (s.size : Int) := by omega
 clear hi h hn hk
 go_enter Tryz.func110, Tryz.ntmps110
 go_wp2_with fail
 refine (Any.stringslite_Index_one Tryz.lays219 s c w).mono ?_
 rw [HI.out]
 rintro e w1 ⟨rfl, rfl⟩
 go_wp2
 go_quiet (fail)
 have bn := HN.out nq
 generalize w1.drewN nq = w2 at *
 go_wp2
 go_ret3
 exact ⟨S1, S2, rfl, H1.out, H2.out, bn⟩
set_option maxHeartbeats 1000000 in
theorem sCut_miss (s : ByteArray) (c : UInt8) (hn : c.toNat ∉ bytesOf s) (w : World) :
 Calls Tryz.prog 110 #[.string s, .string ⟨#[c]⟩] w fun e w' => e = .returned (.tuple #[.string s, .string ⟨#[]⟩, .bool false]) ∧ w = w' := by
 have HI := Lib.hid (index_bytes_miss hn)
 clear hn
 go_enter Tryz.func110, Tryz.ntmps110
 go_wp2_with fail
 refine (Any.stringslite_Index_one Tryz.lays219 s c w).mono ?_
 rw [HI.out]
 rintro e w1 ⟨rfl, rfl⟩
 go_wp2
 go_ret3
 exact ⟨rfl, rfl⟩
theorem cutAt_c (s : ByteArray) (hs : s.size ≤ 1000000000) (c : UInt8) (a b : List Nat) (h : bytesOf s = a ++ c.toNat :: b ∨ (bytesOf s = a ∧ b = [])) (hn : c.toNat ∉ a) (w : World) :
 Calls Tryz.prog 101 #[.string s, .string ⟨#[c]⟩] w fun e w' => ∃ S1 S2 f, e = .returned (.tuple #[.string S1, .string S2, .bool f]) ∧ bytesOf S1 = a ∧ bytesOf S2 = b ∧ Below w.heap.size w w' := by
 rcases h with h | ⟨h, hb⟩
 · have HC := Lib.hid (sCut_hit s hs c a b h hn w)
   clear h hn
   go_enter Tryz.func101, Tryz.ntmps101
   go_wp2_with fail
   refine HC.out.mono ?_
   rintro e w1 ⟨S1, S2, rfl, h1, h2, hb⟩
   have H1 := Lib.hid h1
   have H2 := Lib.hid h2
   have HB := Lib.hid hb
   clear h1 h2 hb
   go_wp2
   go_ret3
   exact ⟨S1, S2, true, rfl, H1.out, H2.out, HB.out⟩
 · rw [← h] at hn
   have HC := Lib.hid (sCut_miss s c hn w)
   have H1 := Lib.hid h
   have H2 := Lib.hid hb
   clear h hb hn
   go_enter Tryz.func101, Tryz.ntmps101
   go_wp2_with fail
   refine HC.out.mono ?_
   rintro e w1 ⟨rfl, rfl⟩
   go_wp2
   go_ret3
   exact ⟨s, ⟨#[]⟩, false, rfl, H1.out, by rw [H2.out]; rfl, Below.refl _ _⟩
end Go.Proofs.YtheaepceghnkpaaGreatDoor

/- What package lex's kindAt, wordLength, lineLength, numberLength, unitsLength answer, as contracts over memory. Conditions: texts that can be read; the tables of kinds read as they are laid. -/
namespace Go.Proofs.YtheaepceghnkpaaGreatDoor
open Go.RowKit Limb
set_option linter.unusedVariables false
theorem lkN_in {s : ByteArray} {k v : Nat} (h : lkN (lim (bytesOf s) k) = v) (h0 : v ≠ 0) : k < (bytesOf s).length := by
 rcases Nat.lt_or_ge k (bytesOf s).length with h2 | h2
 · exact h2
 · rw [lim_past h2] at h; exact absurd h.symm h0
theorem takeWhile_and {p q : Nat → Bool} : ∀ (l : List Nat), l.takeWhile (fun c => q c && p c) = (l.takeWhile p).takeWhile q
 | [] => rfl
 | a :: l => by
  by_cases hp : p a = true
  · rw [List.takeWhile_cons_of_pos hp]
    by_cases hq : q a = true
    · rw [List.takeWhile_cons_of_pos (by simp [hp, hq]), List.takeWhile_cons_of_pos hq, takeWhile_and l]
    · rw [List.takeWhile_cons_of_neg (by simp [hq]), List.takeWhile_cons_of_neg hq]
  · rw [List.takeWhile_cons_of_neg (by simp [hp]), List.takeWhile_cons_of_neg hp]; rfl
theorem unit_index {s X : ByteArray} {r : List Nat} {k : Int} {n : Nat} (hr : bytesOf s = 91 :: r) (hX : bytesOf X = (bytesOf s).takeWhile notNl) (hk : Lib.indexByte X.data.toList 93 = k) (hn : unitL (bytesOf s) = n) :
 (k < 2 ∨ 201 < k) ∧ n = 0 ∨ 2 ≤ k ∧ k ≤ 201 ∧ (n : Int) = k + 1 := by
 rw [hr] at hX hn
 rw [List.takeWhile_cons_of_pos (by decide)] at hX
 have e1 : r.takeWhile inUn = (r.takeWhile notNl).takeWhile (fun c => decide (c ≠ 93)) := takeWhile_and r
 obtain ⟨v, q1, q2, q3⟩ := while_split (p := fun c => decide (c ≠ 93)) (r := r.takeWhile notNl) rfl
 rw [← e1] at q1 q2
 generalize hm : r.takeWhile inUn = m at *
 have hno : (93 : UInt8).toNat ∉ m := fun h => by
  rw [← hm] at h
  have := while_mem (p := inUn) _ h
  exact absurd this (by decide)
 have hno2 : (93 : UInt8).toNat ∉ 91 :: m := fun h => by
  rcases List.mem_cons.1 h with h | h
  · exact absurd h (by decide)
  · exact hno h
 have hl : (r.takeWhile notNl).length ≤ r.length := (List.takeWhile_sublist _).length_le
 have hun : n = if m.length = 0 ∨ 200 < m.length ∨ closeU (r.drop m.length) = false then 0 else m.length + 2 := by
  rw [← hn]; unfold unitL; dsimp only; rw [hm]
 have hpre : r.take (r.takeWhile notNl).length = r.takeWhile notNl := take_whileL r
 rcases q3 with hv | ⟨d, q, hv, hd⟩
 · -- no bracket in the line
   rw [hv, List.append_nil] at q1
   have hm1 : k = -1 := by
    rw [← hk]
    refine index_bytes_miss ?_
    rw [hX, q1]
    exact hno2
   refine .inl ⟨.inl (by omega), ?_⟩
   rw [hun, if_pos]
   refine .inr (.inr ?_)
   cases e : r.drop m.length with
   | nil => rfl
   | cons c z =>
    have hc : notNl c = false := by
     have e2 : r.drop (r.takeWhile notNl).length = c :: z := by rw [q1]; exact e
     exact while_next e2
    have hc2 : c = 10 := by unfold notNl at hc; simpa using hc
    subst hc2; rfl
 · have hd2 : d = 93 := by simpa using hd
   subst hd2
   rw [hv] at q1
   have hkm : k = ((91 :: m).length : Int) := by
    rw [← hk]
    refine index_bytes_hit (b := q) ?_ hno2
    rw [hX, q1]; rfl
   have hc : closeU (r.drop m.length) = true := by
    have e3 : r.takeWhile notNl <+: r := List.takeWhile_prefix _
    obtain ⟨z, hz⟩ := e3
    rw [← hz, q1, List.append_assoc, List.drop_left]
    rfl
   rw [hc] at hun
   rw [List.length_cons] at hkm
   by_cases h0 : m.length = 0
   · rw [if_pos (.inl h0)] at hun
     exact .inl ⟨.inl (by omega), hun⟩
   · by_cases h2 : 200 < m.length
     · rw [if_pos (.inr (.inl h2))] at hun
       exact .inl ⟨.inr (by omega), hun⟩
     · rw [if_neg (by rintro (h | h | h); · exact h0 h
                      · exact h2 h
                      · cases h)] at hun
       exact .inr ⟨by omega, by omega, by omega⟩
set_option maxHeartbeats 2000000 in
set_option maxRecDepth 4000 in
theorem lkAt_c (s : ByteArray) (hs : s.size ≤ 9223372036854775807) (i : Nat) (V : Int) (hV : V = i) (w : World) (T : NTab w) (v : Nat) (hv : lkN (lim (bytesOf s) i) = v) :
 Calls Tryz.prog 87 #[.string s, .int .i64 V] w fun e w' => e = .returned (.int .u8 (v : Int)) ∧ w = w' := by
 subst hV
 by_cases hlt : i < s.size
 · obtain ⟨d, hd⟩ : ∃ d, (s[i]'hlt).toNat = d := ⟨_, rfl⟩
   have hdl : lim (bytesOf s) i = d := by rw [← Limb.byte_at s i hlt, hd]
   have hd2 : d < 256 := by rw [← hd]; exact UInt8.toNat_lt _
   rw [hdl] at hv
   by_cases h1 : d < 123
   · have hc := T d h1
     rw [hv] at hc
     clear hv hdl T
     go_enter Tryz.func87, Tryz.ntmps87
     go_wp2
     go_ret
     exact ⟨rfl, rfl⟩
   · have h2 : 123 ≤ d := by omega
     rw [lkN_big h2] at hv
     subst hv
     clear hdl T h1
     go_enter Tryz.func87, Tryz.ntmps87
     go_wp2
     go_ret
     exact ⟨rfl, rfl⟩
 · have h2 : s.size ≤ i := by omega
   have h0 : lim (bytesOf s) i = 0 := lim_past (by rw [length_bytesOf]; exact h2)
   rw [h0] at hv
   obtain rfl : v = 0 := by rw [← hv]; rfl
   clear hv h0 T hlt
   go_enter Tryz.func87, Tryz.ntmps87
   go_wp2
   go_ret
   exact ⟨rfl, rfl⟩
set_option maxHeartbeats 2000000 in
set_option maxRecDepth 4000 in
theorem lkWord_c (s : ByteArray) (hs : s.size ≤ 9223372036854775807) (w : World) (T : NTab w) (n : Nat) (hn : wordL (bytesOf s) = n) :
 Calls Tryz.prog 89 #[.string s] w fun e w' => e = .returned (.int .i64 (n : Int)) ∧ w = w' := by
 have HT := Lib.hid T
 have Hn := Lib.hid hn
 clear T hn
 go_enter Tryz.func89, Tryz.ntmps89
 go_wp2
 go_loopw [3] (fun i wr => ∃ k : Nat, i = .int .i64 (k : Int) ∧ k ≤ s.size ∧ Hid (k ≤ wordN (bytesOf s)) ∧ w = wr) (fun i _ => s.size - (intOf i).toNat)
 case atStart => exact ⟨0, rfl, Nat.zero_le _, Nat.zero_le _, rfl⟩
 case round =>
  obtain ⟨k, rfl, hk, HK, rfl⟩ := hrel
  obtain ⟨v, hv⟩ : ∃ v, lkN (lim (bytesOf s) k) = v := ⟨_, rfl⟩
  have HV := Lib.hid hv
  have HA := Lib.hid (lkN_all _ (byte_lt s k))
  clear hv
  by_cases h3 : v = 3
  · subst h3
    have HK2 : Hid (k + 1 ≤ wordN (bytesOf s)) := word_step HK.out (lkN_in HV.out (by omega)) (by unfold wdAt; rw [HA.out.2.2.1.1 HV.out]; rfl)
    have hk4 : k < s.size := by have := lkN_in HV.out (by omega); rw [length_bytesOf] at this; exact this
    clear HK
    go_wp2_with (go_at_call 87; refine (lkAt_c s hs k _ rfl _ HT.out _ HV.out).mono ?_; rintro e w1 ⟨rfl, rfl⟩)
    go_roundw
    case rel => exact ⟨k + 1, by go_num, by omega, HK2, by first | rfl | trivial⟩
    case measure => simp [intOf]; omega
  · have HL3 : Hid (isLt (lim (bytesOf s) k) = false) := by
     show _ = _
     rcases Bool.eq_false_or_eq_true (isLt (lim (bytesOf s) k)) with e | e
     · exact absurd (HV.out.symm.trans (HA.out.2.2.1.2 e)) h3
     · exact e
    have e3 : ((v : Int) == 3) = false := by rw [beq_eq_false_iff_ne]; omega
    by_cases k0 : k = 0
    · subst k0
      obtain ⟨k, ek⟩ : ∃ k, k = 0 := ⟨_, rfl⟩
      rw [← ek] at HK HV HL3 HA
      have HE : Hid (wordN (bytesOf s) = k) := word_stop HK.out (fun _ => by unfold wdAt; rw [HL3.out, ek]; rfl)
      clear HK
      subst ek
      have HR : Hid (n = 0) := by show _ = _; rw [← Hn.out]; unfold wordL; rw [HE.out]; rfl
      clear HE
      go_wp2_with (go_at_call 87; refine (lkAt_c s hs 0 _ rfl _ HT.out _ HV.out).mono ?_; rintro e w1 ⟨rfl, rfl⟩)
      go_ret
      exact ⟨by rw [HR.out]; rfl, rfl⟩
    · have k1 : 0 < k := by omega
      by_cases h4 : v = 4
      · subst h4
        have HK2 : Hid (k + 1 ≤ wordN (bytesOf s)) := word_step HK.out (lkN_in HV.out (by omega)) (by unfold wdAt; rw [HA.out.2.2.2.1.1 HV.out, HL3.out, decide_eq_true k1]; rfl)
        have hk4 : k < s.size := by have := lkN_in HV.out (by omega); rw [length_bytesOf] at this; exact this
        clear HK
        go_wp2_with (go_at_call 87; refine (lkAt_c s hs k _ rfl _ HT.out _ HV.out).mono ?_; rintro e w1 ⟨rfl, rfl⟩)
        go_roundw
        case rel => exact ⟨k + 1, by go_num, by omega, HK2, by first | rfl | trivial⟩
        case measure => simp [intOf]; omega
      · have HL4 : Hid (isDig (lim (bytesOf s) k) = false) := by
         show _ = _
         rcases Bool.eq_false_or_eq_true (isDig (lim (bytesOf s) k)) with e | e
         · exact absurd (HV.out.symm.trans (HA.out.2.2.2.1.2 e)) h4
         · exact e
        have e4 : ((v : Int) == 4) = false := by rw [beq_eq_false_iff_ne]; omega
        have HE : Hid (wordN (bytesOf s) = k) := word_stop HK.out (fun _ => by unfold wdAt; rw [HL3.out, HL4.out, Bool.and_false]; rfl)
        clear HK
        by_cases h16 : 16 < k
        · have HR : Hid (n = 0) := by show _ = _; rw [← Hn.out]; unfold wordL; rw [HE.out, if_pos h16]
          clear HE
          go_wp2_with (go_at_call 87; refine (lkAt_c s hs k _ rfl _ HT.out _ HV.out).mono ?_; rintro e w1 ⟨rfl, rfl⟩)
          go_ret
          exact ⟨by rw [HR.out]; rfl, rfl⟩
        · have HR : Hid (n = k) := by show _ = _; rw [← Hn.out]; unfold wordL; rw [HE.out, if_neg h16]
          clear HE
          go_wp2_with (go_at_call 87; refine (lkAt_c s hs k _ rfl _ HT.out _ HV.out).mono ?_; rintro e w1 ⟨rfl, rfl⟩)
          go_ret
          exact ⟨by rw [HR.out]; rfl, rfl⟩
set_option maxHeartbeats 2000000 in
set_option maxRecDepth 4000 in
theorem lkLine_c (s : ByteArray) (hs : s.size ≤ 1000000000) (w : World) (n : Nat) (hn : ((bytesOf s).takeWhile notNl).length = n) :
 Calls Tryz.prog 88 #[.string s] w fun e w' => e = .returned (.int .i64 (n : Int)) ∧ Below w.heap.size w w' := by
 obtain ⟨v, q1, q2, q3⟩ := while_split (p := notNl) (r := bytesOf s) rfl
 have hno : (10 : UInt8).toNat ∉ (bytesOf s).takeWhile notNl := fun h => notNl_of (fun c hc => while_mem c hc) 10 h rfl
 have hcut : bytesOf s = (bytesOf s).takeWhile notNl ++ (10 : UInt8).toNat :: v.tail ∨ (bytesOf s = (bytesOf s).takeWhile notNl ∧ v.tail = []) := by
  rcases q3 with rfl | ⟨d, q, rfl, hd⟩
  · exact .inr ⟨by conv => lhs; rw [q1, List.append_nil], rfl⟩
  · have hd2 : d = 10 := by unfold notNl at hd; simpa using hd
    subst hd2
    exact .inl q1
 have HC := Lib.hid (cutAt_c s hs 10 _ _ hcut hno w)
 have Hn := Lib.hid hn
 clear q1 q2 q3 hno hcut hn
 go_enter Tryz.func88, Tryz.ntmps88
 go_wp2_with fail
 refine HC.out.mono ?_
 rintro e w1 ⟨S1, S2, fl, rfl, k1, k2, bn⟩
 have HB := Lib.hid bn
 have HS : Hid (S1.size = n) := by show _ = _; rw [← length_bytesOf, k1, Hn.out]
 clear k1 k2 bn
 go_wp2
 go_ret
 exact ⟨by rw [HS.out]; rfl, HB.out⟩
set_option maxHeartbeats 2000000 in
set_option maxRecDepth 4000 in
theorem lkNum_c (s : ByteArray) (hs : s.size ≤ 9223372036854775807) (w : World) (T : XTab w) (n : Nat) (hn : numL (bytesOf s) = n) :
 Calls Tryz.prog 90 #[.string s] w fun e w' => e = .returned (.int .i64 (n : Int)) ∧ w = w' := by
 obtain ⟨m, hm⟩ : ∃ m, litLen (bytesOf s) = m := ⟨_, rfl⟩
 obtain ⟨v, hv⟩ : ∃ v, lkN (lim (bytesOf s) m) = v := ⟨_, rfl⟩
 have hA := lkN_all _ (byte_lt s m)
 have hml : m ≤ (bytesOf s).length := by rw [← hm]; exact litLen_le _
 have hst : stopN ((bytesOf s).drop m) = (decide (v = 3) || decide (v = 5)) := by
  rcases Nat.lt_or_ge m (bytesOf s).length with h | h
  · rw [drop_lim h]
    show (isLt (lim (bytesOf s) m) || decide (lim (bytesOf s) m = 46)) = _
    rw [Bool.eq_iff_iff]
    simp only [Bool.or_eq_true, decide_eq_true_eq]
    rw [← hA.2.2.1, ← hA.2.2.2.2.1, hv]
  · rw [List.drop_eq_nil_of_le h]
    have h0 := lim_past h
    rw [h0] at hv
    subst hv
    rfl
 have HLn := Lib.hid (litLen_c s hs w T.1 m hm)
 have HKn := Lib.hid (lkAt_c s hs m _ rfl w T.2 v hv)
 have HR : Hid (n = if 400 < m ∨ v = 3 ∨ v = 5 then 0 else m) := by
  show _ = _
  rw [← hn]
  unfold numL
  rw [hm, hst]
  simp only [Bool.or_eq_true, decide_eq_true_eq]
 have hmz : m ≤ 9223372036854775807 := by rw [length_bytesOf] at hml; omega
 clear hA hml hst hv hm hn T
 by_cases h4 : 400 < m
 · rw [if_pos (.inl h4)] at HR
   go_enter Tryz.func90, Tryz.ntmps90
   go_wp2_with (first | (go_at_call 102; (with_reducible refine HLn.out.mono ?_); rintro e w1 ⟨rfl, rfl⟩) | (go_at_call 87; (with_reducible refine HKn.out.mono ?_); rintro e w1 ⟨rfl, rfl⟩))
   go_ret
   exact ⟨by rw [HR.out]; rfl, rfl⟩
 · by_cases h3 : v = 3
   · subst h3
     rw [if_pos (.inr (.inl rfl))] at HR
     go_enter Tryz.func90, Tryz.ntmps90
     go_wp2_with (first | (go_at_call 102; (with_reducible refine HLn.out.mono ?_); rintro e w1 ⟨rfl, rfl⟩) | (go_at_call 87; (with_reducible refine HKn.out.mono ?_); rintro e w1 ⟨rfl, rfl⟩))
     go_ret
     exact ⟨by rw [HR.out]; rfl, rfl⟩
   · have e3 : ((v : Int) == 3) = false := by rw [beq_eq_false_iff_ne]; omega
     by_cases h5 : v = 5
     · subst h5
       rw [if_pos (.inr (.inr rfl))] at HR
       go_enter Tryz.func90, Tryz.ntmps90
       go_wp2_with (first | (go_at_call 102; (with_reducible refine HLn.out.mono ?_); rintro e w1 ⟨rfl, rfl⟩) | (go_at_call 87; (with_reducible refine HKn.out.mono ?_); rintro e w1 ⟨rfl, rfl⟩))
       go_ret
       exact ⟨by rw [HR.out]; rfl, rfl⟩
     · have e5 : ((v : Int) == 5) = false := by rw [beq_eq_false_iff_ne]; omega
       rw [if_neg (by omega)] at HR
       go_enter Tryz.func90, Tryz.ntmps90
       go_wp2_with (first | (go_at_call 102; (with_reducible refine HLn.out.mono ?_); rintro e w1 ⟨rfl, rfl⟩) | (go_at_call 87; (with_reducible refine HKn.out.mono ?_); rintro e w1 ⟨rfl, rfl⟩))
       go_ret
       exact ⟨by rw [HR.out]; rfl, rfl⟩
set_option maxHeartbeats 2000000 in
set_option maxRecDepth 4000 in
theorem lkUnits_c (s : ByteArray) (hs : s.size ≤ 1000000000) (r : List Nat) (hr : bytesOf s = 91 :: r) (w : World) (n : Nat) (hn : unitL (bytesOf s) = n) :
 Calls Tryz.prog 91 #[.string s] w fun e w' => e = .returned (.int .i64 (n : Int)) ∧ Below w.heap.size w w' := by
 obtain ⟨m, hm⟩ : ∃ m, ((bytesOf s).takeWhile notNl).length = m := ⟨_, rfl⟩
 have hms : m ≤ s.size := by rw [← length_bytesOf, ← hm]; exact (List.takeWhile_sublist _).length_le
 obtain ⟨X, hX⟩ : ∃ X, s.extract 0 m = X := ⟨_, rfl⟩
 have hXb : bytesOf X = (bytesOf s).takeWhile notNl := by rw [← hX, bytesOf_extract, List.drop_zero, Nat.sub_zero, ← hm, take_whileL]
 obtain ⟨k, hk⟩ : ∃ k, Lib.indexByte X.data.toList 93 = k := ⟨_, rfl⟩
 have HR : Hid ((k < 2 ∨ 201 < k) ∧ n = 0 ∨ 2 ≤ k ∧ k ≤ 201 ∧ (n : Int) = k + 1) := unit_index hr hXb hk hn
 have HL := Lib.hid (lkLine_c s hs w m hm)
 have HX := Lib.hid hXb
 have HK := Lib.hid hk
 clear hXb hk hn hr hm
 go_enter Tryz.func91, Tryz.ntmps91
 go_wp2_with fail
 refine HL.out.mono ?_
 rintro e w1 ⟨rfl, bn⟩
 have HB := Lib.hid bn
 clear bn
 go_wp2_with fail
 refine (Any.strings_IndexByte Tryz.lays137 X 93 w1).mono ?_
 rintro e w2 ⟨rfl, rfl⟩
 rw [show (93 : Int).toNat.toUInt8 = (93 : UInt8) from rfl, HK.out]
 rcases HR.out with ⟨h1 | h1, rfl⟩ | ⟨h1, h2, h3⟩
 · clear HR
   go_wp2
   go_ret
   exact ⟨rfl, HB.out⟩
 · clear HR
   have h1b : 2 ≤ k := by omega
   go_wp2
   go_ret
   exact ⟨rfl, HB.out⟩
 · clear HR
   have H3 := Lib.hid h3
   clear h3
   go_wp2
   go_ret
   exact ⟨by rw [H3.out]; rfl, HB.out⟩
end Go.Proofs.YtheaepceghnkpaaGreatDoor

/- What strings.Clone and package lex's gapLength, first, textOf, IsName answer, as contracts over memory. Conditions: texts of at most 10^9 bytes; the tables of kinds read as they are laid. -/
namespace Go.Proofs.YtheaepceghnkpaaGreatDoor
open Go.RowKit Limb
set_option linter.unusedVariables false
set_option maxHeartbeats 2000000 in
set_option maxRecDepth 4000 in
theorem sClone_c (s : ByteArray) (hs : s.size ≤ 1000000000) (w : World) :
 Calls Tryz.prog 92 #[.string s] w fun e w' => e = .returned (.string s) ∧ Below w.heap.size w w' := by
 have HC := Lib.hid (Any.stringslite_Clone Tryz.laysM316 s w (by omega))
 go_enter Tryz.func92, Tryz.ntmps92
 go_wp2_with fail
 refine HC.out.mono ?_
 rintro e w1 ⟨rfl, bn⟩
 have HB := Lib.hid bn
 clear bn
 go_wp2
 go_ret
 exact ⟨rfl, HB.out⟩
set_option maxHeartbeats 2000000 in
set_option maxRecDepth 4000 in
theorem lkGap_c (s : ByteArray) (hs : s.size ≤ 1000000000) (w : World) (T : NTab w) :
 Calls Tryz.prog 71 #[.string s] w fun e w' => ∃ n : Nat, e = .returned (.int .i64 (n : Int)) ∧ Gap (bytesOf s) n ∧ Stop (bytesOf s) n ∧ Below w.heap.size w w' := by
 have HT := Lib.hid T
 have HL := Lib.hid (length_bytesOf s)
 clear T
 go_enter Tryz.func71, Tryz.ntmps71
 go_wp2
 go_loopw [3] (fun i wr => ∃ k : Nat, i = .int .i64 (k : Int) ∧ k ≤ s.size ∧ Hid (Gap (bytesOf s) k) ∧ Hid (Below w.heap.size w wr)) (fun i _ => s.size - (intOf i).toNat)
 case atStart => exact ⟨0, rfl, Nat.zero_le _, Gap.zero _, Below.refl _ _⟩
 case round =>
  obtain ⟨k, rfl, hk, HG, HB⟩ := hrel
  obtain ⟨v, hv⟩ : ∃ v, lkN (lim (bytesOf s) k) = v := ⟨_, rfl⟩
  have HV := Lib.hid hv
  have HA := Lib.hid (lkN_all _ (byte_lt s k))
  have HTn : Hid (NTab wr) := fun i hi => (HB.out.cell (p := ⟨1, i, none⟩) (kcell_lt (HT.out i hi))).trans (HT.out i hi)
  clear hv
  go_wp2_with fail
  refine (lkAt_c s (by omega) k _ rfl _ HTn.out _ HV.out).mono ?_
  rintro e wx ⟨rfl, rfl⟩
  by_cases h1 : v = 1
  · subst h1
    have hin : Hid (k < (bytesOf s).length) := lkN_in HV.out (by decide)
    have hk4 : k < s.size := by have := hin.out; rw [length_bytesOf] at this; exact this
    have HG2 : Hid (Gap (bytesOf s) (k + 1)) := HG.out.skip (drop_lim hin.out) (skip_blank (HA.out.1.1 HV.out))
    clear HG
    go_wp2
    go_roundw
    case rel => exact ⟨k + 1, by go_num, by omega, HG2, HB⟩
    case measure => simp [intOf]; omega
  · have e1 : ((v : Int) == 1) = false := by rw [beq_eq_false_iff_ne]; omega
    by_cases h2 : v = 2
    · subst h2
      have hin : Hid (k < (bytesOf s).length) := lkN_in HV.out (by decide)
      have hk4 : k < s.size := by have := hin.out; rw [length_bytesOf] at this; exact this
      have h35 : lim (bytesOf s) k = 35 := HA.out.2.1.1 HV.out
      have hd : (bytesOf s).drop k = 35 :: (bytesOf s).drop (k + 1) := by rw [drop_lim hin.out, h35]
      obtain ⟨m, hm⟩ : ∃ m, ((bytesOf s).drop k).takeWhile notNl = m := ⟨_, rfl⟩
      have hm2 : m.length = 1 + (((bytesOf s).drop (k + 1)).takeWhile notNl).length := by rw [← hm, hd, note_line]
      have HG2 : Hid (Gap (bytesOf s) (k + m.length)) := by show Gap _ _; rw [hm2]; exact HG.out.skip hd skip_note
      have hkm : k + m.length ≤ s.size := by rw [← HL.out]; exact HG2.out.1
      have hm1 : 1 ≤ m.length := by omega
      obtain ⟨X, hX⟩ : ∃ X, s.extract k s.size = X := ⟨_, rfl⟩
      have HX : Hid (bytesOf X = (bytesOf s).drop k) := by show _ = _; rw [← hX]; exact tail_of s k
      have hXs : X.size = s.size - k := by rw [← hX]; exact tail_size s hk
      have Hm := Lib.hid hm
      obtain ⟨q, hq⟩ : ∃ q, m.length = q := ⟨_, rfl⟩
      have Hq := Lib.hid hq
      rw [hq] at hkm hm1 HG2
      clear h35 hd hm2 HG hm hq
      go_wp2_with fail
      refine (lkLine_c X (by omega) wr q (by rw [HX.out, Hm.out]; exact Hq.out)).mono ?_
      rintro e w2 ⟨rfl, bn⟩
      have HB2 := Lib.hid (below_two HB.out bn)
      clear bn HB hXs
      go_wp2
      go_roundw
      case rel => exact ⟨k + q, by go_num, by omega, HG2, HB2⟩
      case measure => simp [intOf]; omega
    · have e2 : ((v : Int) == 2) = false := by rw [beq_eq_false_iff_ne]; omega
      have HS : Hid (Stop (bytesOf s) k) := by
       intro c r hd
       have hin : k < (bytesOf s).length := by
        rcases Nat.lt_or_ge k (bytesOf s).length with h | h
        · exact h
        · rw [List.drop_eq_nil_of_le h] at hd; cases hd
       rw [drop_lim hin] at hd
       injection hd with hc _
       refine ⟨?_, fun e => h2 (HV.out.symm.trans (HA.out.2.1.2 (hc.trans e)))⟩
       rcases Bool.eq_false_or_eq_true (isBl c) with e | e
       · exact absurd (HV.out.symm.trans (HA.out.1.2 (by rw [hc]; exact e))) h1
       · exact e
      go_wp2
      go_ret
      exact ⟨k, rfl, HG.out, HS.out, HB.out⟩
set_option maxHeartbeats 2000000 in
set_option maxRecDepth 4000 in
theorem lkFirst_c (s : ByteArray) (hs : s.size ≤ 1000000000) (c : Nat) (r : List Nat) (hr : bytesOf s = c :: r) (hst : Hid (isBl c = false ∧ c ≠ 35)) (w : World) (T : XTab w) :
 Calls Tryz.prog 72 #[.string s] w fun e w' => ∃ k n : Nat, e = .returned (.tuple #[.int .i64 (k : Int), .int .i64 (n : Int)]) ∧ FirstP c r k n ∧ Below w.heap.size w w' := by
 obtain ⟨v, hv⟩ : ∃ v, lkN c = v := ⟨_, rfl⟩
 have hc0 : lim (bytesOf s) 0 = c := by rw [hr]; rfl
 have HV := Lib.hid hv
 have HA := Lib.hid (lkN_all c (by rw [← hc0]; exact byte_lt s 0))
 have HK := Lib.hid (lkAt_c s (by omega) 0 0 rfl w T.2 v (by rw [hc0]; exact hv))
 have HT := Lib.hid T
 have HTn : Hid (NTab w) := T.2
 have HR := Lib.hid hr
 obtain ⟨n3, h3'⟩ : ∃ n, wordL (bytesOf s) = n := ⟨_, rfl⟩
 obtain ⟨n4, h4'⟩ : ∃ n, numL (bytesOf s) = n := ⟨_, rfl⟩
 obtain ⟨n7, h7'⟩ : ∃ n, unitL (bytesOf s) = n := ⟨_, rfl⟩
 have H3 := Lib.hid h3'
 have H4 := Lib.hid h4'
 have H7 := Lib.hid h7'
 clear hv hc0 T hr h3' h4' h7'
 by_cases h3 : v = 3
 · subst h3
   have HF : Hid (FirstP c r 1 n3) := by show FirstP _ _ _ _; rw [← H3.out, HR.out]; exact first_word (HA.out.2.2.1.1 HV.out)
   go_enter Tryz.func72, Tryz.ntmps72
   go_wp2_with (first | (go_at_call 87; (with_reducible refine HK.out.mono ?_); rintro e w1 ⟨rfl, rfl⟩) | (go_at_call 89; (with_reducible refine (lkWord_c s (by omega) w HTn.out n3 H3.out).mono ?_); rintro e w1 ⟨rfl, rfl⟩))
   go_ret2
   exact ⟨1, n3, rfl, HF.out, Below.refl _ _⟩
 · have e3 : ((v : Int) == 3) = false := by rw [beq_eq_false_iff_ne]; omega
   by_cases h4 : v = 4
   · subst h4
     have HF : Hid (FirstP c r 2 n4) := by show FirstP _ _ _ _; rw [← H4.out, HR.out]; exact first_num (HA.out.2.2.2.1.1 HV.out)
     go_enter Tryz.func72, Tryz.ntmps72
     go_wp2_with (first | (go_at_call 87; (with_reducible refine HK.out.mono ?_); rintro e w1 ⟨rfl, rfl⟩) | (go_at_call 90; (with_reducible refine (lkNum_c s (by omega) w HT.out n4 H4.out).mono ?_); rintro e w1 ⟨rfl, rfl⟩))
     go_ret2
     exact ⟨2, n4, rfl, HF.out, Below.refl _ _⟩
   · have e4 : ((v : Int) == 4) = false := by rw [beq_eq_false_iff_ne]; omega
     by_cases h6 : v = 6
     · subst h6
       have HF : Hid (FirstP c r 3 1) := first_sign (HA.out.2.2.2.2.2.1.1 HV.out)
       go_enter Tryz.func72, Tryz.ntmps72
       go_wp2_with (go_at_call 87; (with_reducible refine HK.out.mono ?_); rintro e w1 ⟨rfl, rfl⟩)
       go_ret2
       exact ⟨3, 1, rfl, HF.out, Below.refl _ _⟩
     · have e6 : ((v : Int) == 6) = false := by rw [beq_eq_false_iff_ne]; omega
       by_cases h7 : v = 7
       · subst h7
         have hc : c = 91 := HA.out.2.2.2.2.2.2.1 HV.out
         have HU := Lib.hid (lkUnits_c s hs r (by rw [HR.out, hc]) w n7 H7.out)
         have HF : Hid (FirstP c r 4 n7) := by show FirstP _ _ _ _; rw [← H7.out, HR.out, hc]; exact first_unit
         clear hc
         go_enter Tryz.func72, Tryz.ntmps72
         go_wp2_with (go_at_call 87; (with_reducible refine HK.out.mono ?_); rintro e w1 ⟨rfl, rfl⟩)
         refine HU.out.mono ?_
         rintro e w2 ⟨rfl, bn⟩
         have HB := Lib.hid bn
         clear bn
         go_wp2
         go_ret2
         exact ⟨4, n7, rfl, HF.out, HB.out⟩
       · have e7 : ((v : Int) == 7) = false := by rw [beq_eq_false_iff_ne]; omega
         have HF : Hid (FirstP c r 0 0) := by
          have no : ∀ {b : Bool}, ¬ b = true → b = false := fun h => by simpa using h
          exact first_none 0 hst.out.1 hst.out.2 (no fun e => h3 (HV.out.symm.trans (HA.out.2.2.1.2 e))) (no fun e => h4 (HV.out.symm.trans (HA.out.2.2.2.1.2 e))) (fun e => h7 (HV.out.symm.trans (HA.out.2.2.2.2.2.2.2 e))) (no fun e => h6 (HV.out.symm.trans (HA.out.2.2.2.2.2.1.2 e)))
         go_enter Tryz.func72, Tryz.ntmps72
         go_wp2_with (go_at_call 87; (with_reducible refine HK.out.mono ?_); rintro e w1 ⟨rfl, rfl⟩)
         go_ret2
         exact ⟨0, 0, rfl, HF.out, Below.refl _ _⟩
set_option maxHeartbeats 2000000 in
set_option maxRecDepth 4000 in
theorem lkText_c (s : ByteArray) (hs : s.size ≤ 1000000000) (k : Nat) (t : List Nat) (a : Nat) (hr : rawT (k, t, a) = bytesOf s) (w : World) :
 Calls Tryz.prog 73 #[.int .i64 (k : Int), .string s] w fun e w' => e = .returned (.string (strOf t)) ∧ Below w.heap.size w w' := by
 unfold rawT at hr
 dsimp only at hr
 by_cases h4 : k = 4
 · subst h4
   rw [if_pos rfl] at hr
   have hl : s.size = t.length + 2 := by rw [← length_bytesOf, ← hr]; simp
   obtain ⟨X, hX⟩ : ∃ X, s.extract 1 (t.length + 1) = X := ⟨_, rfl⟩
   have hXb : bytesOf X = t := by rw [← hX, bytesOf_extract, ← hr]; simp
   have HX : Hid (strOf t = X) := by show _ = _; rw [← hXb, strOf_bytesOf]
   have hXs : X.size = t.length := by rw [← length_bytesOf, hXb]
   obtain ⟨q, hq⟩ : ∃ q, t.length = q := ⟨_, rfl⟩
   rw [hq] at hl hX hXs
   have hw : (s.size : Int) - 1 = ((q + 1 : Nat) : Int) := by omega
   clear hXb hr hq
   go_enter Tryz.func73, Tryz.ntmps73
   go_wp2_with fail
   refine (sClone_c X (by omega) w).mono ?_
   rintro e w1 ⟨rfl, bn⟩
   have HB := Lib.hid bn
   clear bn
   go_wp2
   go_ret
   exact ⟨by rw [HX.out]; rfl, HB.out⟩
 · rw [if_neg h4] at hr
   have HX : Hid (strOf t = s) := by show _ = _; rw [hr, strOf_bytesOf]
   have e4 : ((k : Int) == 4) = false := by rw [beq_eq_false_iff_ne]; omega
   clear hr
   go_enter Tryz.func73, Tryz.ntmps73
   go_wp2_with fail
   refine (sClone_c s (by omega) w).mono ?_
   rintro e w1 ⟨rfl, bn⟩
   have HB := Lib.hid bn
   clear bn
   go_wp2
   go_ret
   exact ⟨by rw [HX.out]; rfl, HB.out⟩
theorem own_eq (s : ByteArray) (W : List Nat) (hB : W.all (fun x => decide (x < 256)) = true) : (s.toList == W.map UInt8.ofNat) = decide (bytesOf s = W) := by
 have hW : Bytes W := fun x hx => of_decide_eq_true (List.all_eq_true.1 hB x hx)
 have := str_beq (a := bytesOf s) (b := W) (bytes_bytesOf s) hW
 rwa [strOf_bytesOf, toList_strOf] at this
set_option maxHeartbeats 2000000 in
set_option maxRecDepth 4000 in
theorem lkIsName_c (s : ByteArray) (hs : s.size ≤ 9223372036854775807) (w : World) (T : NTab w) (v : Bool) (hv : isNam (bytesOf s) = v) :
 Calls Tryz.prog 75 #[.string s] w fun e w' => e = .returned (.bool v) ∧ w = w' := by
 have HL := Lib.hid (length_bytesOf s)
 have HT := Lib.hid T
 have Hv := Lib.hid hv
 clear T hv
 by_cases h0 : bytesOf s = []
 · have f0 : (s.toList == ([] : List UInt8)) = true := (own_eq s [] (by decide)).trans (decide_eq_true h0)
   have HV : Hid (v = false) := by show _ = _; rw [← Hv.out, h0]; decide
   clear h0
   go_enter Tryz.func75, Tryz.ntmps75
   go_wp2
   go_ret
   exact ⟨by rw [HV.out]; rfl, rfl⟩
 · have f0 : (s.toList == ([] : List UInt8)) = false := (own_eq s [] (by decide)).trans (decide_eq_false h0)
   by_cases h1 : bytesOf s = [117, 110, 105, 116]
   · have f1 : (s.toList == ([117, 110, 105, 116] : List UInt8)) = true := (own_eq s [117, 110, 105, 116] (by decide)).trans (decide_eq_true h1)
     have HV : Hid (v = false) := by show _ = _; rw [← Hv.out, h1]; decide
     clear h1
     go_enter Tryz.func75, Tryz.ntmps75
     go_wp2
     go_ret
     exact ⟨by rw [HV.out]; rfl, rfl⟩
   · have f1 : (s.toList == ([117, 110, 105, 116] : List UInt8)) = false := (own_eq s [117, 110, 105, 116] (by decide)).trans (decide_eq_false h1)
     by_cases h2 : bytesOf s = [115, 111, 117, 114, 99, 101]
     · have f2 : (s.toList == ([115, 111, 117, 114, 99, 101] : List UInt8)) = true := (own_eq s [115, 111, 117, 114, 99, 101] (by decide)).trans (decide_eq_true h2)
       have HV : Hid (v = false) := by show _ = _; rw [← Hv.out, h2]; decide
       clear h2
       go_enter Tryz.func75, Tryz.ntmps75
       go_wp2
       go_ret
       exact ⟨by rw [HV.out]; rfl, rfl⟩
     · have f2 : (s.toList == ([115, 111, 117, 114, 99, 101] : List UInt8)) = false := (own_eq s [115, 111, 117, 114, 99, 101] (by decide)).trans (decide_eq_false h2)
       by_cases h3 : bytesOf s = [99, 111, 118]
       · have f3 : (s.toList == ([99, 111, 118] : List UInt8)) = true := (own_eq s [99, 111, 118] (by decide)).trans (decide_eq_true h3)
         have HV : Hid (v = false) := by show _ = _; rw [← Hv.out, h3]; decide
         clear h3
         go_enter Tryz.func75, Tryz.ntmps75
         go_wp2
         go_ret
         exact ⟨by rw [HV.out]; rfl, rfl⟩
       · have f3 : (s.toList == ([99, 111, 118] : List UInt8)) = false := (own_eq s [99, 111, 118] (by decide)).trans (decide_eq_false h3)
         by_cases h4 : bytesOf s = [108, 101, 116]
         · have f4 : (s.toList == ([108, 101, 116] : List UInt8)) = true := (own_eq s [108, 101, 116] (by decide)).trans (decide_eq_true h4)
           have HV : Hid (v = false) := by show _ = _; rw [← Hv.out, h4]; decide
           clear h4
           go_enter Tryz.func75, Tryz.ntmps75
           go_wp2
           go_ret
           exact ⟨by rw [HV.out]; rfl, rfl⟩
         · have f4 : (s.toList == ([108, 101, 116] : List UInt8)) = false := (own_eq s [108, 101, 116] (by decide)).trans (decide_eq_false h4)
           by_cases h5 : bytesOf s = [111, 117, 116, 112, 117, 116]
           · have f5 : (s.toList == ([111, 117, 116, 112, 117, 116] : List UInt8)) = true := (own_eq s [111, 117, 116, 112, 117, 116] (by decide)).trans (decide_eq_true h5)
             have HV : Hid (v = false) := by show _ = _; rw [← Hv.out, h5]; decide
             clear h5
             go_enter Tryz.func75, Tryz.ntmps75
             go_wp2
             go_ret
             exact ⟨by rw [HV.out]; rfl, rfl⟩
           · have f5 : (s.toList == ([111, 117, 116, 112, 117, 116] : List UInt8)) = false := (own_eq s [111, 117, 116, 112, 117, 116] (by decide)).trans (decide_eq_false h5)
             by_cases h6 : bytesOf s = [105, 110]
             · have f6 : (s.toList == ([105, 110] : List UInt8)) = true := (own_eq s [105, 110] (by decide)).trans (decide_eq_true h6)
               have HV : Hid (v = false) := by show _ = _; rw [← Hv.out, h6]; decide
               clear h6
               go_enter Tryz.func75, Tryz.ntmps75
               go_wp2
               go_ret
               exact ⟨by rw [HV.out]; rfl, rfl⟩
             · have f6 : (s.toList == ([105, 110] : List UInt8)) = false := (own_eq s [105, 110] (by decide)).trans (decide_eq_false h6)
               have hown : ownW (bytesOf s) = false := by
                unfold ownW
                simp only [List.contains_cons, List.contains_nil, Bool.or_false, Bool.or_eq_false_iff, beq_eq_false_iff_ne]
                exact ⟨h1, h2, h3, h4, h5, h6⟩
               obtain ⟨n, hn⟩ : ∃ n, wordL (bytesOf s) = n := ⟨_, rfl⟩
               have HV : Hid (v = decide (n = s.size)) := by
                show _ = _
                rw [← Hv.out, ← hn, ← HL.out, wordL_is _ h0]
                unfold isNam
                rw [hown, Bool.not_false, Bool.and_true]
               have HN := Lib.hid hn
               clear hown hn h0 h1 h2 h3 h4 h5 h6
               go_enter Tryz.func75, Tryz.ntmps75
               go_wp2_with (go_at_call 89; (with_reducible refine (lkWord_c s hs w HT.out n HN.out).mono ?_); rintro e w1 ⟨rfl, rfl⟩)
               go_ret
               refine ⟨?_, rfl⟩
               rw [HV.out]
               refine ret_bool ?_
               rw [Bool.eq_iff_iff]
               simp
               try omega
end Go.Proofs.YtheaepceghnkpaaGreatDoor

/- What package tree's own, endingAt, startOf, alike answer, as contracts over memory. Conditions: starts that lie not behind their nodes. -/
namespace Go.Proofs.YtheaepceghnkpaaGreatDoor
open Go.RowKit Limb
set_option linter.unusedVariables false
theorem two_no {k : Int} (h3 : ¬ k = 3) (h4 : ¬ k = 4) (h5 : ¬ k = 5) (h6 : ¬ k = 6) : ¬ twoK k = true := fun e => by have := twoK_iff.1 e; omega
def NuR (w : World) (g : Nat) (T : TypeId) (o : List Nat) (k : Nat) : Prop := RowA w g T (ints .i64 (o.map Int.ofNat ++ List.replicate k 0))
theorem NuR.cell {w : World} {g : Nat} {T : TypeId} {o : List Nat} {k : Nat} (h : NuR w g T o k) {j : Nat} (hj : j < o.length) : w.cell? ⟨g, j, none⟩ = some (.int .i64 ((o.getD j 0 : Nat) : Int)) := by
 have h1 := RowA.int (i := j) h (by rw [List.length_append, List.length_map]; omega)
 rw [h1]
 congr 2
 rw [List.getD_eq_getElem?_getD, List.getElem?_append_left (by rw [List.length_map]; exact hj), List.getElem?_map, List.getD_eq_getElem?_getD, List.getElem?_eq_getElem hj]
 rfl
theorem NuR.below {w w' : World} {g : Nat} {T : TypeId} {o : List Nat} {k : Nat} (h : NuR w g T o k) (hb : Below w.heap.size w w') : NuR w' g T o k := RowA.below h hb
theorem NuR.lt {w : World} {g : Nat} {T : TypeId} {o : List Nat} {k : Nat} (h : NuR w g T o k) : g < w.heap.size := RowA.lt h
theorem NuR.room {w : World} {g : Nat} {T : TypeId} {o : List Nat} {k : Nat} (h : NuR w g T o (k + 1)) : ∃ v, w.cell? ⟨g, o.length, none⟩ = some (.int .i64 v) ∧ w.frozen? ⟨g, o.length, none⟩ = false :=
 ⟨_, RowA.int (i := o.length) h (by rw [List.length_append, List.length_map, List.length_replicate]; omega), RowA.free h _⟩
theorem NuR.store {w : World} {g : Nat} {T : TypeId} {o : List Nat} {k : Nat} (h : NuR w g T o (k + 1)) (s : Nat) : NuR (w.setCell ⟨g, o.length, none⟩ (.int .i64 (s : Int))) g T (o ++ [s]) k := by
 have h1 := RowA.setInt h o.length (s : Int)
 unfold NuR
 rw [List.map_append, List.append_assoc]
 rw [List.set_append_right (h := by rw [List.length_map]; exact Nat.le_refl _), List.length_map, Nat.sub_self, List.replicate_succ, List.set_cons_zero] at h1
 exact h1
end Go.Proofs.YtheaepceghnkpaaGreatDoor

/- What package lex's Tokens answers, as a contract over memory. Conditions: a text of at most 10^9 bytes; the tables of kinds read as they are laid. -/
namespace Go.Proofs.YtheaepceghnkpaaGreatDoor
open Go.RowKit Limb
set_option linter.unusedVariables false
theorem appL_nil (r : LR) : appL [] r = r := by cases r <;> rfl
theorem appL_cons (us : List Tk) (t : Tk) (r : LR) : appL us (consL t r) = appL (us ++ [t]) r := by
 cases r with
 | bad p => rfl
 | ok l => show LR.ok _ = LR.ok _; simp
def LexI (l : List Nat) (us : List Tk) (p : Nat) : Prop := p ≤ l.length ∧ us.length ≤ p ∧ Stop l p ∧ lexT l = appL us (lexR (l.length + 1) p (l.drop p))
theorem LexI.start {l : List Nat} {n : Nat} (h : Gap l n) (hs : Stop l n) : LexI l [] n := by
 refine ⟨h.1, Nat.zero_le _, hs, ?_⟩
 rw [appL_nil]
 have := h.2 (l.length + 1) (l.length + 1) 0 (by omega) (by omega)
 rw [Nat.zero_add] at this
 exact this
theorem LexI.done {l : List Nat} {us : List Tk} {p : Nat} (h : LexI l us p) (hp : l.length ≤ p) : lexT l = .ok us := by
 rw [h.2.2.2, List.drop_eq_nil_of_le hp]
 show LR.ok (us ++ []) = _
 rw [List.append_nil]
theorem LexI.bad {l : List Nat} {us : List Tk} {p c : Nat} {r : List Nat} (h : LexI l us p) (hd : l.drop p = c :: r) (hb : lexS c r = .bad) : lexT l = .bad p := by
 rw [h.2.2.2, hd]
 unfold lexR
 rw [hb]
 rfl
theorem LexI.step {l : List Nat} {us : List Tk} {p c k n m : Nat} {r t : List Nat} (h : LexI l us p) (hd : l.drop p = c :: r) (ht : lexS c r = .tok k t n) (hg : Gap (l.drop (p + n)) m) (hst : Stop (l.drop (p + n)) m) : LexI l (us ++ [(k, t, p)]) (p + n + m) := by
 have hl := lexS_len.2 k t n ht
 have hlen : l.length - p = r.length + 1 := by rw [← List.length_drop, hd, List.length_cons]
 have hg1 := hg.1
 rw [List.length_drop] at hg1
 refine ⟨by omega, ?_, ?_, ?_⟩
 · rw [List.length_append, List.length_singleton]; have := h.2.1; omega
 · intro c2 r2 e
   exact hst c2 r2 (by rw [List.drop_drop]; exact e)
 · rw [h.2.2.2, hd]
   have e1 : lexR (l.length + 1) p (c :: r) = consL (k, t, p) (lexR l.length (p + n) ((c :: r).drop n)) := by
    conv => lhs; unfold lexR
    rw [ht]
   rw [e1, appL_cons, ← hd, List.drop_drop, hg.2 l.length (l.length + 1) (p + n) (by rw [List.length_drop]; omega) (by rw [List.length_drop]; omega), List.drop_drop]
theorem lexV_bad {l : List Nat} {p : Nat} (h : ¬ 4000 < l.length) (hb : lexT l = .bad p) : lexV l = ([], 11, (p : Int)) := by unfold lexV; rw [if_neg h, hb]
theorem lexV_ok {l : List Nat} {us : List Tk} (h : ¬ 4000 < l.length) (hb : lexT l = .ok us) : lexV l = (us, 0, 0) := by unfold lexV; rw [if_neg h, hb]
theorem ownR_far {w : World} {B sz n c q : Nat} {e : TypeId} {A : Option Addr} {xs : List Value} {V : Array Value} (h : OwnR w B e sz A n c xs) (hq : q < B) : OwnR (w.setRow q V) B e sz A n c xs := by
 refine ⟨h.1, ?_⟩
 rcases h.2 with h1 | ⟨g, cap, cur, hv, hB, hg, r⟩
 · exact .inl h1
 · exact .inr ⟨g, cap, cur, hv, hB, (setRow_other w q g V (by omega)).trans hg, r⟩
set_option maxHeartbeats 4000000 in
set_option maxRecDepth 4000 in
theorem lkTokens_c (s : ByteArray) (hs : s.size ≤ 1000000000) (w : World) (T : XTab w) (ts : List Tk) (E P : Int) (hR : lexV (bytesOf s) = (ts, E, P)) :
 Calls Tryz.prog 48 #[.string s] w fun e w' => ∃ A n c, e = .returned (.tuple #[.slice A n c, .agg (fltC E P)]) ∧ TokR w' A n c ts ∧ Below w.heap.size w w' := by
 have hz := rowA_new w 29 (fltC 0 0)
 have HB := Lib.hid (below_new w (.cells (fltC 0 0) 29))
 have HT := Lib.hid T
 have HL := Lib.hid (length_bytesOf s)
 have Hs1 : Hid ((w.alloc (.cells (fltC 0 0) 29)).heap.size = w.heap.size + 1) := by show _ = _; simp
 clear T
 by_cases h4 : 4000 < s.size
 · unfold lexV at hR
   rw [length_bytesOf, if_pos h4] at hR
   obtain ⟨rfl, rfl, rfl⟩ : [] = ts ∧ (2 : Int) = E ∧ (0 : Int) = P := by simpa using hR
   clear hR
   have HRf := Lib.hid (rowA_new w 29 (fltC 2 0))
   have HE := Lib.hid (below_new w (.cells (fltC 2 0) 29))
   clear hz
   go_enter Tryz.func48, Tryz.ntmps48
   go_wp2
   refine bodyPost_ret (results_mixed2 rfl _ _ _ 29 (fltC 2 0) (0, 0) _ (.slice none 0 0) rfl rfl HRf.out Tryz.underlying29 rfl sizeF) rfl ?_
   exact ⟨none, 0, 0, rfl, TokR.nil _, HE.out⟩
 · have HR := Lib.hid hR
   have h4l : Hid (¬ 4000 < (bytesOf s).length) := by show ¬ _; rw [length_bytesOf]; exact h4
   clear hR
   go_enter Tryz.func48, Tryz.ntmps48
   go_wp2_with fail
   generalize w.alloc (.cells (fltC 0 0) 29) = w1 at *
   obtain ⟨q, eq⟩ : ∃ g, g = w.heap.size := ⟨_, rfl⟩
   have hqB : Hid (w.heap.size ≤ q) := by show _ ≤ _; omega
   rw [← eq] at hz Hs1 ⊢
   have HQ := Lib.hid eq
   clear eq
   refine (lkGap_c s hs w1 (HT.out.below HB.out).2).mono ?_
   rintro e w2 ⟨n0, rfl, hg, hst, bn⟩
   have HI0 := Lib.hid (LexI.start hg hst)
   have HB2 := Lib.hid (below_two HB.out bn)
   have HZ2 := Lib.hid (hz.below bn)
   have Hs2 : Hid (q + 1 ≤ w2.heap.size) := by show _ ≤ _; have := bn.size; have := Hs1.out; omega
   clear hg hst bn hz HB Hs1
   go_wp2
   go_loopw [4, 5] (fun lv av wr => ∃ (A : Option Addr) (n c p : Nat) (us : List Tk), lv = .slice A n c ∧ av = .int .i64 (p : Int) ∧ Hid (n = us.length) ∧ p ≤ s.size ∧ Hid (n ≤ c ∧ OwnR wr (q + 1) 89 3 A n c (tkCells us)) ∧ Hid (LexI (bytesOf s) us p) ∧ Hid (RowA wr q 29 (fltC 0 0)) ∧ Hid (q + 1 ≤ wr.heap.size) ∧ Hid (Below w.heap.size w wr)) (fun _ av _ => s.size - (intOf av).toNat)
   case atStart => exact ⟨none, 0, 0, n0, [], rfl, rfl, rfl, (by have := HI0.out.1; rw [HL.out] at this; exact this), ⟨Nat.le_refl _, OwnR.nil _ _ _ _⟩, HI0, HZ2, Hs2, HB2⟩
   case round =>
    clear HI0 HB2 HZ2 Hs2
    obtain ⟨A, n, c, p, us, rfl, rfl, hn, hp, HO, HI, HZw, Hsz, HB⟩ := hrel
    by_cases hlt : p < s.size
    · have hd := drop_lim (l := bytesOf s) (i := p) (by rw [HL.out]; exact hlt)
      generalize lim (bytesOf s) p = c0 at hd
      generalize hr0 : (bytesOf s).drop (p + 1) = r0 at hd
      have hst0 := HI.out.2.2.1 c0 r0 hd
      obtain ⟨X, hX⟩ : ∃ X, s.extract p s.size = X := ⟨_, rfl⟩
      have HX : Hid (bytesOf X = c0 :: r0) := by show _ = _; rw [← hX, tail_of]; exact hd
      have hXs : X.size = s.size - p := by rw [← hX]; exact tail_size s (by omega)
      have HD := Lib.hid hd
      have HS0 := Lib.hid hst0
      clear hd hst0 hr0
      go_wp2_with fail
      refine (lkFirst_c X (by omega) c0 r0 HX.out HS0 wr (HT.out.below HB.out)).mono ?_
      rintro e w3 ⟨k, m, rfl, hF, bn⟩
      have HF := Lib.hid hF
      have HB3 := Lib.hid (below_two HB.out bn)
      have HZ3 := Lib.hid (HZw.out.below bn)
      have HO3 : Hid (n ≤ c ∧ OwnR w3 (q + 1) 89 3 A n c (tkCells us)) := ⟨HO.out.1, HO.out.2.below bn⟩
      have Hs3 : Hid (q + 1 ≤ w3.heap.size) := by show _ ≤ _; have := bn.size; have := Hsz.out; omega
      clear hF bn HB HZw HO Hsz
      by_cases m0 : m = 0
      · subst m0
        have hb : lexS c0 r0 = .bad := by
         rcases HF.out with ⟨_, h⟩ | ⟨t, h⟩
         · exact h
         · exact absurd (lexS_len.2 _ _ _ h).1 (by decide)
        have hV := lexV_bad h4l.out (HI.out.bad HD.out hb)
        rw [HR.out] at hV
        obtain ⟨rfl, rfl, rfl⟩ : ts = [] ∧ E = 11 ∧ P = (p : Int) := by simpa using hV
        clear hV hb HR HF
        have HZ := Lib.hid (HZ3.out)
        have HU := Lib.hid (fitsF 11 (p : Int))
        have HRf := Lib.hid (RowA.fill HZ.out (V' := fltC 11 (p : Int)))
        have HE := Lib.hid (below_fillRow (HB3.out) hqB.out (fltC 11 (p : Int)))
        clear HZ3 HO3
        go_wp2_with (refine wpList_storeV (by rfl) _ _ _ (by rfl) _ (by rfl) _ (by rfl) _ _ (by assumption) (by assumption) ?_)
        refine bodyPost_ret (results_mixed2 rfl _ _ _ 29 (fltC 11 (p : Int)) (0, 0) _ (.slice none 0 0) rfl rfl HRf.out Tryz.underlying29 rfl sizeF) rfl ?_
        exact ⟨none, 0, 0, rfl, TokR.nil _, HE.out⟩
      · obtain ⟨t, ht⟩ : ∃ t, lexS c0 r0 = .tok k t m := by
         rcases HF.out with ⟨h, _⟩ | ⟨t, h⟩
         · exact absurd h m0
         · exact ⟨t, h⟩
        have hml := lexS_len.2 _ _ _ ht
        have hr0 : r0.length + 1 = s.size - p := by have := congrArg List.length HD.out; rw [List.length_drop, HL.out, List.length_cons] at this; omega
        have e0 : ((m : Int) == 0) = false := by rw [beq_eq_false_iff_ne]; omega
        have hpm : p + m ≤ s.size := by omega
        have hm1 := hml.1
        obtain ⟨Y, hY⟩ : ∃ Y, s.extract p (p + m) = Y := ⟨_, rfl⟩
        have HY : Hid (rawT (k, t, p) = bytesOf Y) := by show _ = _; rw [← hY, bytesOf_extract, HD.out, Nat.add_sub_cancel_left]; exact (raw_at ht).2.symm
        have hYs : Y.size ≤ s.size := by have h := HY.out; have h2 := congrArg List.length h; rw [(raw_at ht).1, length_bytesOf] at h2; omega
        obtain ⟨U, hU⟩ : ∃ U, strOf t = U := ⟨_, rfl⟩
        have HTk := Lib.hid ht
        have HU := Lib.hid hU
        have hn4 : n ≤ 4000 := by have := HI.out.2.1; have := hn.out; omega
        clear ht hml hr0 HF m0 hU
        go_wp2_with fail
        refine (lkText_c Y (by omega) k t p HY.out w3).mono ?_
        rintro e w4 ⟨rfl, bn⟩
        rw [HU.out]
        have bl := below_new w4 (.cells (tkC k U p) 89)
        have HB4 := Lib.hid (below_two HB3.out (below_two bn bl))
        have HZ4 := Lib.hid ((HZ3.out.below bn).below bl)
        have HO4 := Lib.hid ((HO3.out.2.below bn).below bl)
        have HL4 : Hid (RowA (w4.alloc (.cells (tkC k U p) 89)) w4.heap.size 89 (tkC k U p) ∧ (tkC k U p).size = 3 ∧ ∀ v ∈ tkC k U p, v.oneCell' = true) := ⟨rowA_new _ _ _, rfl, by simp [Value.oneCell']⟩
        have Hs4 : Hid (q + 1 ≤ (w4.alloc (.cells (tkC k U p) 89)).heap.size) := by show _ ≤ _; have := bn.size; have := Hs3.out; simp; omega
        have HE4 : Hid (n ≤ 1000000 ∧ q + 1 ≤ (w4.alloc (.cells (tkC k U p) 89)).heap.size) := ⟨by omega, Hs4.out⟩
        clear bn bl HB3 HZ3 HO3 Hs3
        go_wp2_with (at_builtin; refine wpList_append_one rfl _ _ 60 rfl (q + 1) 89 3 toks_elem A n c _ rfl HO4 w4.heap.size rfl 89 (tkC k U p) HL4 HE4 ?_)
        intro A2 c2 w5 hO5 hg5
        have HB5 := Lib.hid (below_append HB4.out (by have := hqB.out; omega) HE4.out.2 HO4.out hg5.out)
        have HZ5 := Lib.hid (HZ4.out.grown hg5.out (HO4.out.apart HZ4.out (Nat.lt_succ_self q)))
        have HO5 : Hid (n + 1 ≤ c2 ∧ OwnR w5 (q + 1) 89 3 A2 (n + 1) c2 (tkCells (us ++ [(k, t, p)]))) := by
         have h5 := hO5.out
         obtain ⟨g, _, _, _, hc, _⟩ := h5.cells (by omega)
         refine ⟨hc, ?_⟩
         rw [tkCells_snoc]; unfold tkV; rw [HU.out]; exact h5
        have Hs5 : Hid (q + 1 ≤ w5.heap.size) := Nat.le_trans Hs4.out hg5.out.size
        clear hO5 hg5 HO4 HL4 HE4 HB4 HZ4 Hs4
        obtain ⟨X2, hX2⟩ : ∃ X, s.extract (p + m) s.size = X := ⟨_, rfl⟩
        have HX2 : Hid (bytesOf X2 = (bytesOf s).drop (p + m)) := by show _ = _; rw [← hX2]; exact tail_of s _
        have hX2s : X2.size = s.size - (p + m) := by rw [← hX2]; exact tail_size s hpm
        go_wp2_with fail
        refine (lkGap_c X2 (by omega) w5 (HT.out.below HB5.out).2).mono ?_
        rintro e w6 ⟨m2, rfl, hg, hst, bn⟩
        rw [HX2.out] at hg hst
        have HI6 := Lib.hid (HI.out.step HD.out HTk.out hg hst)
        have hm2 : p + m + m2 ≤ s.size := by have := HI6.out.1; rw [HL.out] at this; exact this
        have HB6 := Lib.hid (below_two HB5.out bn)
        have HZ6 := Lib.hid (HZ5.out.below bn)
        have HO6 : Hid (n + 1 ≤ c2 ∧ OwnR w6 (q + 1) 89 3 A2 (n + 1) c2 (tkCells (us ++ [(k, t, p)]))) := ⟨HO5.out.1, HO5.out.2.below bn⟩
        have Hs6 : Hid (q + 1 ≤ w6.heap.size) := by show _ ≤ _; have := bn.size; have := Hs5.out; omega
        clear hg hst bn HB5 HZ5 HO5 Hs5 HX2 hX2s hXs hYs
        go_wp2
        exact ⟨⟨A2, n + 1, c2, p + m + m2, us ++ [(k, t, p)], rfl, by first | rfl | (go_num), (by show _ = _; rw [List.length_append, ← hn.out]; rfl), hm2, HO6, HI6, HZ6, Hs6, HB6⟩, by simp [intOf]; omega⟩
    · have hV := lexV_ok h4l.out (HI.out.done (by rw [HL.out]; omega))
      rw [HR.out] at hV
      obtain ⟨rfl, rfl, rfl⟩ : ts = us ∧ E = 0 ∧ P = 0 := by simpa using hV
      clear hV HR HI
      have HZ := Lib.hid (HZw.out)
      have HU := Lib.hid (fitsF 0 0)
      have HRf := Lib.hid (RowA.fill HZ.out (V' := fltC 0 0))
      have HE := Lib.hid (below_fillRow (HB.out) hqB.out (fltC 0 0))
      have HOf : Hid (OwnR (wr.setRow q (fltC 0 0)) (q + 1) 89 3 A n c (tkCells ts)) := ownR_far HO.out.2 (Nat.lt_succ_self q)
      have Hnc := Lib.hid HO.out.1
      clear HZw HO
      go_wp2_with (refine wpList_storeV (by rfl) _ _ _ (by rfl) _ (by rfl) _ (by rfl) _ _ (by assumption) (by assumption) ?_)
      refine bodyPost_ret (results_mixed2 rfl _ _ _ 29 (fltC 0 0) (0, 0) _ (.slice A n c) rfl rfl HRf.out Tryz.underlying29 rfl sizeF) rfl ?_
      exact ⟨A, n, c, rfl, ⟨hn.out, Hnc.out, _, HOf.out⟩, HE.out⟩
end Go.Proofs.YtheaepceghnkpaaGreatDoor

/- A token that is put behind a row of tokens in a box; reading byte by byte. No condition. -/
namespace Go.Proofs.YtheaepceghnkpaaGreatDoor
open Go.RowKit Limb
set_option linter.unusedVariables false
abbrev gotX (A : Option Addr) (n c : Nat) (e p : Int) : Array Value := #[.slice A n c, .int .i64 e, .int .i64 p]
def LexJ (l : List Nat) (us : List Tk) (p : Nat) : Prop := p ≤ l.length ∧ us.length ≤ p ∧ lexT l = appL us (lexR (l.length + 1) p (l.drop p))
theorem LexJ.start (l : List Nat) : LexJ l [] 0 := ⟨Nat.zero_le _, Nat.le_refl _, by rw [appL_nil]; rfl⟩
theorem LexJ.done {l : List Nat} {us : List Tk} {p : Nat} (h : LexJ l us p) (hp : l.length ≤ p) : lexT l = .ok us := by
 rw [h.2.2, List.drop_eq_nil_of_le hp]
 show LR.ok (us ++ []) = _
 rw [List.append_nil]
theorem LexJ.bad {l : List Nat} {us : List Tk} {p c : Nat} {r : List Nat} (h : LexJ l us p) (hd : l.drop p = c :: r) (hb : lexS c r = .bad) : lexT l = .bad p := by
 rw [h.2.2, hd]
 unfold lexR
 rw [hb]
 rfl
theorem LexJ.skip {l : List Nat} {us : List Tk} {p c n : Nat} {r : List Nat} (h : LexJ l us p) (hd : l.drop p = c :: r) (hs : lexS c r = .skip n) : LexJ l us (p + n) := by
 have hl := lexS_len.1 n hs
 have hlen : l.length - p = r.length + 1 := by rw [← List.length_drop, hd, List.length_cons]
 refine ⟨by omega, by have := h.2.1; omega, ?_⟩
 have e1 : lexR (l.length + 1) p (c :: r) = lexR l.length (p + n) ((c :: r).drop n) := by
  conv => lhs; unfold lexR
  rw [hs]
 rw [h.2.2, hd, e1, ← hd, List.drop_drop]
 congr 1
 exact lexR_fuel _ _ _ _ (by rw [List.length_drop]; omega) (by rw [List.length_drop]; omega)
theorem LexJ.tok {l : List Nat} {us : List Tk} {p c k n : Nat} {r t : List Nat} (h : LexJ l us p) (hd : l.drop p = c :: r) (hs : lexS c r = .tok k t n) : LexJ l (us ++ [(k, t, p)]) (p + n) := by
 have hl := lexS_len.2 k t n hs
 have hlen : l.length - p = r.length + 1 := by rw [← List.length_drop, hd, List.length_cons]
 refine ⟨by omega, by rw [List.length_append, List.length_singleton]; have := h.2.1; omega, ?_⟩
 have e1 : lexR (l.length + 1) p (c :: r) = consL (k, t, p) (lexR l.length (p + n) ((c :: r).drop n)) := by
  conv => lhs; unfold lexR
  rw [hs]
 rw [h.2.2, hd, e1, appL_cons, ← hd, List.drop_drop]
 congr 1
 exact lexR_fuel _ _ _ _ (by rw [List.length_drop]; omega) (by rw [List.length_drop]; omega)
/-! ### a token put behind a row in a box -/
def ApR (k : Nat) (A : Option Addr) (n c : Nat) (i : Nat) (wx wy : World) : Prop := if i = k then wx.grownBy wy (Value.ownBlock (.slice A n c)) else Below wx.heap.size wx wy
theorem ApR.of {k : Nat} {A : Option Addr} {n c i : Nat} {wx wy : World} (h : Below wx.heap.size wx wy) (hi : i ≠ k) : ApR k A n c i wx wy := by unfold ApR; rw [if_neg hi]; exact h
theorem ApR.row {k : Nat} {A : Option Addr} {n c i : Nat} {wx wy : World} (h : ApR k A n c i wx wy) {g : Nat} {T : TypeId} {V : Array Value} (r : RowA wx g T V) (hg : Value.ownBlock (.slice A n c) ≠ some g) : RowA wy g T V := by
 unfold ApR at h
 split at h
 · exact r.grown h hg
 · exact r.below h
def ApS (w0 : World) (q2 q3 B S0 : Nat) (A : Option Addr) (n c : Nat) (us : List Tk) (k : Nat) (l : Nat → Bool) (wx : World) : Prop :=
 RowA wx q3 96 (gotX A n c 0 0) ∧ RowA wx q2 96 (gotX none 0 0 0 0) ∧ S0 ≤ wx.heap.size ∧ Below w0.heap.size w0 wx ∧ (l k = false → OwnR wx B 89 3 A n c (tkCells us))
theorem ApS.step {w0 : World} {q2 q3 B S0 : Nat} {A : Option Addr} {n c : Nat} {us : List Tk} {k i : Nat} {l : Nat → Bool} {wx wy : World} (hB0 : w0.heap.size ≤ B) (hq2 : q2 < B) (hq3 : q3 < B) (hBS : B ≤ S0) (hl : l i = false) (hR : ApR k A n c i wx wy) (h : ApS w0 q2 q3 B S0 A n c us k l wx) :
 ApS w0 q2 q3 B S0 A n c us k (fun j => if j = i then true else l j) wy := by
 obtain ⟨h1, h2, h3, h4, h5⟩ := h
 by_cases hi : i = k
 · subst hi
   have ho := h5 hl
   have n3 := ho.apart h1 hq3
   have n2 := ho.apart h2 hq2
   have hg := hR
   unfold ApR at hg
   rw [if_pos rfl] at hg
   exact ⟨h1.grown hg n3, h2.grown hg n2, Nat.le_trans h3 hg.size, below_append h4 hB0 (by omega) ho hg, fun e => by dsimp only at e; rw [if_pos rfl] at e; cases e⟩
 · have hg := hR
   unfold ApR at hg
   rw [if_neg hi] at hg
   exact ⟨h1.below hg, h2.below hg, Nat.le_trans h3 hg.size, below_two h4 hg, fun e => by dsimp only at e; rw [if_neg (Ne.symm hi)] at e; exact (h5 e).below hg⟩
end Go.Proofs.YtheaepceghnkpaaGreatDoor

/- What the reference of layer 13 answers (letter, digit), as contracts over memory. No condition. -/
namespace Go.Proofs.YtheaepceghnkpaaGreatDoor
open Go.RowKit Limb
set_option linter.unusedVariables false
set_option maxHeartbeats 4000000 in
set_option maxRecDepth 100000 in
theorem rxLetter_c (c : Nat) (v : Bool) (hv : isLt c = v) (w : World) :
 Calls Tryz.prog 64 #[.int .u8 (c : Int)] w fun e w' => e = .returned (.bool v) ∧ w = w' := by
 go_enter Tryz.func64, Tryz.ntmps64
 go_wp2
 all_goals go_ret
 all_goals refine ⟨ret_bool ?_, rfl⟩
 all_goals subst hv
 all_goals unfold isLt
 all_goals grind
set_option maxHeartbeats 4000000 in
set_option maxRecDepth 100000 in
theorem rxDigit_c (c : Nat) (v : Bool) (hv : isDig c = v) (w : World) :
 Calls Tryz.prog 65 #[.int .u8 (c : Int)] w fun e w' => e = .returned (.bool v) ∧ w = w' := by
 go_enter Tryz.func65, Tryz.ntmps65
 go_wp2
 all_goals go_ret
 all_goals refine ⟨ret_bool ?_, rfl⟩
 all_goals subst hv
 all_goals unfold isDig
 all_goals grind
end Go.Proofs.YtheaepceghnkpaaGreatDoor

/- What the reference of layer 13 answers (IsName), and keep.Tokens, as contracts over memory. Conditions: texts that can be read; rows of tokens. -/
namespace Go.Proofs.YtheaepceghnkpaaGreatDoor
open Go.RowKit Limb
set_option linter.unusedVariables false
theorem isWdB_of {l : List Nat} (h : l ≠ []) (hw : wordN l = l.length) : isWdB l = decide (l.length ≤ 16) := by
 rw [← wordL_is l h]
 have hp := List.length_pos_iff.2 h
 unfold wordL
 rw [hw]
 by_cases h16 : 16 < l.length
 · rw [if_pos h16, decide_eq_false (by omega), decide_eq_false (by omega)]
 · rw [if_neg h16, decide_eq_true rfl, decide_eq_true (by omega)]
theorem isWdB_no {l : List Nat} {k : Nat} (hw : wordN l = k) (hk : k < l.length) : isWdB l = false := by
 have h : l ≠ [] := by rintro rfl; simp at hk
 rw [← wordL_is l h]
 unfold wordL
 rw [hw]
 split
 · exact decide_eq_false (by omega)
 · exact decide_eq_false (by omega)
set_option maxHeartbeats 2000000 in
set_option maxRecDepth 100000 in
theorem rxIsName_c (s : ByteArray) (hs : s.size ≤ 9223372036854775807) (w : World) (v : Bool) (hv : isNam (bytesOf s) = v) :
 Calls Tryz.prog 36 #[.string s] w fun e w' => e = .returned (.bool v) ∧ w = w' := by
 have HL := Lib.hid (length_bytesOf s)
 have Hv := Lib.hid hv
 clear hv
 go_enter Tryz.func36, Tryz.ntmps36
 go_wp2
 go_loopw [3] (fun i wr => ∃ k : Nat, i = .int .i64 (k : Int) ∧ k ≤ s.size ∧ Hid (k ≤ wordN (bytesOf s)) ∧ w = wr) (fun i _ => s.size - (intOf i).toNat)
 case atStart => exact ⟨0, rfl, Nat.zero_le _, Nat.zero_le _, rfl⟩
 case round =>
  obtain ⟨k, rfl, hk, HK, rfl⟩ := hrel
  by_cases hlt : k < s.size
  · obtain ⟨d, hd⟩ : ∃ d, (s[k]'hlt).toNat = d := ⟨_, rfl⟩
    have HD : Hid (lim (bytesOf s) k = d) := by show _ = _; rw [← Limb.byte_at s k hlt, hd]
    by_cases hl : isLt d = true
    · have HLt := Lib.hid hl
      have HK2 : Hid (k + 1 ≤ wordN (bytesOf s)) := word_step HK.out (by rw [HL.out]; exact hlt) (by unfold wdAt; rw [HD.out, HLt.out]; rfl)
      clear hl HK HD
      as_aux_lemma =>
       go_wp2_with (go_at_call 64; (with_reducible refine (rxLetter_c d _ HLt.out _).mono ?_); rintro e w2 ⟨rfl, rfl⟩)
       go_roundw
       case rel => exact ⟨k + 1, by go_num, by omega, HK2, by first | rfl | trivial⟩
       case measure => simp [intOf]; omega
    · have HLt : Hid (isLt d = false) := by show _ = _; simpa using hl
      clear hl
      by_cases k0 : k = 0
      · subst k0
        have HE : Hid (wordN (bytesOf s) = 0) := word_stop (Nat.zero_le _) (fun _ => by unfold wdAt; rw [HD.out, HLt.out]; rfl)
        have HVf : Hid (v = false) := by show _ = _; rw [← Hv.out]; unfold isNam; rw [isWdB_no HE.out (by rw [HL.out]; exact hlt)]; rfl
        clear HE
        as_aux_lemma =>
         go_wp2_with (go_at_call 64; (with_reducible refine (rxLetter_c d _ HLt.out _).mono ?_); rintro e w2 ⟨rfl, rfl⟩)
         go_ret
         exact ⟨by rw [HVf.out]; rfl, rfl⟩
      · have k1 : 0 < k := by omega
        have ek : ((k : Int) == 0) = false := by rw [beq_eq_false_iff_ne]; omega
        by_cases hg : isDig d = true
        · have HG := Lib.hid hg
          have HK2 : Hid (k + 1 ≤ wordN (bytesOf s)) := word_step HK.out (by rw [HL.out]; exact hlt) (by unfold wdAt; rw [HD.out, HLt.out, HG.out, decide_eq_true k1]; rfl)
          clear hg HK HD
          as_aux_lemma =>
           go_wp2_with (first | (go_at_call 64; (with_reducible refine (rxLetter_c d _ HLt.out _).mono ?_); rintro e w2 ⟨rfl, rfl⟩) | (go_at_call 65; (with_reducible refine (rxDigit_c d _ HG.out _).mono ?_); rintro e w2 ⟨rfl, rfl⟩))
           go_roundw
           case rel => exact ⟨k + 1, by go_num, by omega, HK2, by first | rfl | trivial⟩
           case measure => simp [intOf]; omega
        · have HG : Hid (isDig d = false) := by show _ = _; simpa using hg
          have HE : Hid (wordN (bytesOf s) = k) := word_stop HK.out (fun _ => by unfold wdAt; rw [HD.out, HLt.out, HG.out, Bool.and_false]; rfl)
          clear hg HK HD
          have HVf : Hid (v = false) := by show _ = _; rw [← Hv.out]; unfold isNam; rw [isWdB_no HE.out (by rw [HL.out]; exact hlt)]; rfl
          clear HE
          as_aux_lemma =>
           go_wp2_with (first | (go_at_call 64; (with_reducible refine (rxLetter_c d _ HLt.out _).mono ?_); rintro e w2 ⟨rfl, rfl⟩) | (go_at_call 65; (with_reducible refine (rxDigit_c d _ HG.out _).mono ?_); rintro e w2 ⟨rfl, rfl⟩))
           go_ret
           exact ⟨by rw [HVf.out]; rfl, rfl⟩
  · obtain rfl : k = s.size := by omega
    have HE : Hid (wordN (bytesOf s) = (bytesOf s).length) := by show _ = _; exact Nat.le_antisymm (wordN_le _) (by rw [HL.out]; exact HK.out)
    clear HK hlt hk
    by_cases h1 : 1 ≤ s.size
    · have hne : bytesOf s ≠ [] := by intro e; have := HL.out; rw [e] at this; simp at this; omega
      have HW := Lib.hid (isWdB_of hne HE.out)
      clear hne HE
      by_cases h16 : s.size ≤ 16
      · have HWt : Hid (isWdB (bytesOf s) = true) := by show _ = _; rw [HW.out, HL.out]; exact decide_eq_true h16
        clear HW
        by_cases g1 : bytesOf s = [117, 110, 105, 116]
        · have f1 : (s.toList == ([117, 110, 105, 116] : List UInt8)) = true := (own_eq s [117, 110, 105, 116] (by decide)).trans (decide_eq_true g1)
          have HVf : Hid (v = false) := by show _ = _; rw [← Hv.out]; unfold isNam; rw [HWt.out, g1]; decide
          clear g1
          as_aux_lemma =>
           go_wp2
           go_ret
           exact ⟨by rw [HVf.out]; rfl, rfl⟩
        · have f1 : (s.toList == ([117, 110, 105, 116] : List UInt8)) = false := (own_eq s [117, 110, 105, 116] (by decide)).trans (decide_eq_false g1)
          by_cases g2 : bytesOf s = [115, 111, 117, 114, 99, 101]
          · have f2 : (s.toList == ([115, 111, 117, 114, 99, 101] : List UInt8)) = true := (own_eq s [115, 111, 117, 114, 99, 101] (by decide)).trans (decide_eq_true g2)
            have HVf : Hid (v = false) := by show _ = _; rw [← Hv.out]; unfold isNam; rw [HWt.out, g2]; decide
            clear g2
            as_aux_lemma =>
             go_wp2
             go_ret
             exact ⟨by rw [HVf.out]; rfl, rfl⟩
          · have f2 : (s.toList == ([115, 111, 117, 114, 99, 101] : List UInt8)) = false := (own_eq s [115, 111, 117, 114, 99, 101] (by decide)).trans (decide_eq_false g2)
            by_cases g3 : bytesOf s = [99, 111, 118]
            · have f3 : (s.toList == ([99, 111, 118] : List UInt8)) = true := (own_eq s [99, 111, 118] (by decide)).trans (decide_eq_true g3)
              have HVf : Hid (v = false) := by show _ = _; rw [← Hv.out]; unfold isNam; rw [HWt.out, g3]; decide
              clear g3
              as_aux_lemma =>
               go_wp2
               go_ret
               exact ⟨by rw [HVf.out]; rfl, rfl⟩
            · have f3 : (s.toList == ([99, 111, 118] : List UInt8)) = false := (own_eq s [99, 111, 118] (by decide)).trans (decide_eq_false g3)
              by_cases g4 : bytesOf s = [108, 101, 116]
              · have f4 : (s.toList == ([108, 101, 116] : List UInt8)) = true := (own_eq s [108, 101, 116] (by decide)).trans (decide_eq_true g4)
                have HVf : Hid (v = false) := by show _ = _; rw [← Hv.out]; unfold isNam; rw [HWt.out, g4]; decide
                clear g4
                as_aux_lemma =>
                 go_wp2
                 go_ret
                 exact ⟨by rw [HVf.out]; rfl, rfl⟩
              · have f4 : (s.toList == ([108, 101, 116] : List UInt8)) = false := (own_eq s [108, 101, 116] (by decide)).trans (decide_eq_false g4)
                by_cases g5 : bytesOf s = [111, 117, 116, 112, 117, 116]
                · have f5 : (s.toList == ([111, 117, 116, 112, 117, 116] : List UInt8)) = true := (own_eq s [111, 117, 116, 112, 117, 116] (by decide)).trans (decide_eq_true g5)
                  have HVf : Hid (v = false) := by show _ = _; rw [← Hv.out]; unfold isNam; rw [HWt.out, g5]; decide
                  clear g5
                  as_aux_lemma =>
                   go_wp2
                   go_ret
                   exact ⟨by rw [HVf.out]; rfl, rfl⟩
                · have f5 : (s.toList == ([111, 117, 116, 112, 117, 116] : List UInt8)) = false := (own_eq s [111, 117, 116, 112, 117, 116] (by decide)).trans (decide_eq_false g5)
                  by_cases g6 : bytesOf s = [105, 110]
                  · have f6 : (s.toList == ([105, 110] : List UInt8)) = true := (own_eq s [105, 110] (by decide)).trans (decide_eq_true g6)
                    have HVf : Hid (v = false) := by show _ = _; rw [← Hv.out]; unfold isNam; rw [HWt.out, g6]; decide
                    clear g6
                    as_aux_lemma =>
                     go_wp2
                     go_ret
                     exact ⟨by rw [HVf.out]; rfl, rfl⟩
                  · have f6 : (s.toList == ([105, 110] : List UInt8)) = false := (own_eq s [105, 110] (by decide)).trans (decide_eq_false g6)
                    have HVt : Hid (v = true) := by
                     show _ = _
                     rw [← Hv.out]
                     unfold isNam ownW
                     rw [HWt.out]
                     simp only [List.contains_cons, List.contains_nil, Bool.or_false, Bool.true_and, Bool.not_eq_true', Bool.or_eq_false_iff, beq_eq_false_iff_ne]
                     exact ⟨g1, g2, g3, g4, g5, g6⟩
                    clear g1 g2 g3 g4 g5 g6
                    as_aux_lemma =>
                     go_wp2
                     go_ret
                     exact ⟨by rw [HVt.out]; rfl, rfl⟩
      · have HVf : Hid (v = false) := by show _ = _; rw [← Hv.out]; unfold isNam; rw [HW.out, HL.out, decide_eq_false h16]; rfl
        clear HW
        have h17 : ¬ ((s.size : Int) ≤ 16) := by omega
        go_wp2
        go_ret
        exact ⟨by rw [HVf.out]; rfl, rfl⟩
    · have h0 : s.size = 0 := by omega
      have hnil : bytesOf s = [] := List.eq_nil_of_length_eq_zero (by rw [HL.out]; exact h0)
      have HVf : Hid (v = false) := by show _ = _; rw [← Hv.out, hnil]; rfl
      clear hnil HE
      have h17 : ¬ ((1 : Int) ≤ (s.size : Int)) := by omega
      go_wp2
      go_ret
      exact ⟨by rw [HVf.out]; rfl, rfl⟩
section
variable {w : World} {A A2 : Option Addr} {n c1 n2 c2 : Nat} {ts : List Tk}
end
end Go.Proofs.YtheaepceghnkpaaGreatDoor

/- What strings.IndexAny and strings.ContainsAny answer of a text and the two bytes 93, 10, as contracts over memory; package tree's inBrackets. Condition: texts of at most 10^9 bytes, of any bytes. -/
namespace Go.Proofs.YtheaepceghnkpaaGreatDoor
open Go.RowKit Limb
set_option linter.unusedVariables false
def okB (c : Nat) : Bool := !(c == 93 || c == 10)
def NoU (s : ByteArray) (i : Nat) : Prop := ∀ j, j < i → j < s.size → okB (s.get! j).toNat = true
theorem NoU.step {s : ByteArray} {i k : Nat} (h : NoU s i) (hk : ∀ j, j < k → i + j < s.size ∧ 128 ≤ (s.get! (i + j)).toNat) : NoU s (i + k) := by
 intro j hj hs
 rcases Nat.lt_or_ge j i with h1 | h1
 · exact h j h1 hs
 · obtain ⟨d, rfl⟩ : ∃ d, j = i + d := ⟨j - i, by omega⟩
   have := (hk d (by omega)).2
   unfold okB
   simp; omega
theorem NoU.succ {s : ByteArray} {i : Nat} (h : NoU s i) (hb : okB (s.get! i).toNat = true) : NoU s (i + 1) := by
 intro j hj hs
 rcases Nat.lt_or_ge j i with h1 | h1
 · exact h j h1 hs
 · obtain rfl : j = i := by omega
   exact hb
theorem get_bang (s : ByteArray) (i : Nat) (hi : i < s.size) : s.get! i = s[i]'hi := by
 cases s with
 | mk a => exact getElem!_pos a i hi
theorem all_iff (s : ByteArray) : ((bytesOf s).all fun c => !(c == 93 || c == 10)) = true ↔ NoU s s.size := by
 rw [List.all_eq_true]
 constructor
 · intro h j _ hj
   have := h ((s[j]'hj).toNat) (List.mem_map.2 ⟨s[j]'hj, by rw [← Array.mem_def]; exact Array.getElem_mem _, rfl⟩)
   rw [get_bang s j hj]
   exact this
 · intro h x hx
   obtain ⟨b, hb, rfl⟩ := List.mem_map.1 hx
   obtain ⟨j, hj, e⟩ := List.mem_iff_getElem.1 hb
   have hj2 : j < s.size := by simpa using hj
   have := h j hj2 hj2
   rw [get_bang s j hj2] at this
   have e2 : s[j]'hj2 = b := by rw [← e]; rfl
   rw [e2] at this
   exact this
end Go.Proofs.YtheaepceghnkpaaGreatDoor

/- What package tree's fits answers, as a contract over memory. Conditions: texts of at most 10^6 bytes; the tables of kinds read as they are laid. -/
namespace Go.Proofs.YtheaepceghnkpaaGreatDoor
open Go.RowKit Limb
set_option linter.unusedVariables false
end Go.Proofs.YtheaepceghnkpaaGreatDoor

/- What package tree's Good answers, as a contract over memory. Conditions: at most 10^6 nodes, texts of at most 10^6 bytes; the tables of kinds read as they are laid. -/
namespace Go.Proofs.YtheaepceghnkpaaGreatDoor
open Go.RowKit Limb
set_option linter.unusedVariables false
def Mild (ts : List Nd) : Prop := ts.length ≤ 1000000 ∧ ∀ x ∈ ts, x.t.size ≤ 1000000 ∧ x.u.size ≤ 1000000
theorem Mild.at {ts : List Nd} (h : Mild ts) {i : Nat} {x : Nd} (hx : ts[i]? = some x) : x.t.size ≤ 1000000 ∧ x.u.size ≤ 1000000 := h.2 x (List.mem_of_getElem? hx)
end Go.Proofs.YtheaepceghnkpaaGreatDoor

/- Rows of nodes whole in a block: what is laid into them, what a store of one node, a copy of nodes leave. Of any program that has these types; no condition. -/
namespace Go.Proofs.YtheaepceghnkpaaGreatDoor
open Go.RowKit Limb
set_option linter.unusedVariables false
def NdR (w : World) (g : Nat) (L : List Nd) : Prop := RowA w g 47 (ndCells L).toArray
theorem NdR.inV {w : World} {g : Nat} {L : List Nd} (h : NdR w g L) {i : Nat} {x : Nd} (hx : L[i]? = some x) : InV w g (i * 7) (ndV x) :=
 RowA.part h fun j v hv => by rw [List.getElem?_toArray]; exact ndCells_at hx j v hv
theorem NdR.tree {w : World} {g : Nat} {L : List Nd} (h : NdR w g L) (hm : L.length ≤ maxLen) : TreR w (some ⟨g, 0, none⟩) L.length L.length L :=
 ⟨rfl, Nat.le_refl _, hm, fun _ => ⟨g, 0, rfl, RowA.lt h, fun i x hx => by rw [Nat.zero_add]; exact h.inV hx⟩⟩
theorem NdR.below {w w' : World} {g : Nat} {L : List Nd} (h : NdR w g L) (hb : Below w.heap.size w w') : NdR w' g L := RowA.below h hb
section
variable {ops : Array Oper} {rest : List Oper} {o : Oper} {a : Act} {w : World} {Q : Exit → Act → World → Prop}
end
end Go.Proofs.YtheaepceghnkpaaGreatDoor

/- What package tree's lay answers, as a contract over memory. Conditions: a row of nodes whole in a block; a child of at least one node, texts of at most 10^6 bytes, places from 0 to 10^6. -/
namespace Go.Proofs.YtheaepceghnkpaaGreatDoor
open Go.RowKit Limb
set_option linter.unusedVariables false
end Go.Proofs.YtheaepceghnkpaaGreatDoor

/- What package tree's Deep answers, as a contract over memory. Conditions: rows of nodes that can be read, texts of at most 10^6 bytes; the tables of kinds read as they are laid. -/
namespace Go.Proofs.YtheaepceghnkpaaGreatDoor
open Go.RowKit Limb
set_option linter.unusedVariables false
end Go.Proofs.YtheaepceghnkpaaGreatDoor

/- What package tree's grown answers. -/
namespace Go.Proofs.YtheaepceghnkpaaGreatDoor
open Go.RowKit Limb
set_option linter.unusedVariables false
def ChR (w : World) (A : Option Addr) (m : Nat) (us : List (List Nd)) : Prop := m = us.length ∧ m ≤ 10 ∧ ∀ i ts, us[i]? = some ts → ∃ g o B n c, A = some ⟨g, o, none⟩ ∧ g < w.heap.size ∧ w.cell? ⟨g, o + i, none⟩ = some (.slice B n c) ∧ TreR w B n c ts
theorem ChR.below {w w' : World} {A : Option Addr} {m : Nat} {us : List (List Nd)} (h : ChR w A m us) (hb : Below w.heap.size w w') : ChR w' A m us := by
 refine ⟨h.1, h.2.1, fun i ts hi => ?_⟩
 obtain ⟨g, o, B, n, c, e, hg, hc, ht⟩ := h.2.2 i ts hi
 exact ⟨g, o, B, n, c, e, Nat.lt_of_lt_of_le hg hb.size, (hb.cell (p := ⟨g, o + i, none⟩) hg).trans hc, ht.below hb⟩
theorem NdR.one {w : World} {g : Nat} {x : Nd} (h : RowA w g 47 (ndV x)) : NdR w g [x] := by
 unfold NdR
 have e : (ndCells [x]).toArray = ndV x := by simp [ndCells]
 rw [e]; exact h
end Go.Proofs.YtheaepceghnkpaaGreatDoor

/- What package tree's Lit, Ref, Neg, Pow, Join answer, as contracts over memory. Conditions: texts of at most 10^6 bytes, trees of at most 10^6 nodes; the tables of kinds read as they are laid. -/
namespace Go.Proofs.YtheaepceghnkpaaGreatDoor
open Go.RowKit Limb
set_option linter.unusedVariables false
theorem ChR.nil (w : World) : ChR w none 0 [] := ⟨rfl, by omega, fun i ts h => by simp at h⟩
theorem ChR.one {w : World} {g : Nat} {T : TypeId} {A : Option Addr} {n c : Nat} {ts : List Nd} (hg : RowA w g T #[.slice A n c]) (h : TreR w A n c ts) : ChR w (some ⟨g, 0, none⟩) 1 [ts] := by
 refine ⟨rfl, by omega, fun i us hi => ?_⟩
 match i, hi with
 | 0, hi =>
  cases hi
  exact ⟨g, 0, A, n, c, rfl, hg.lt, hg.cell (k := 0) rfl, h⟩
theorem ChR.two {w : World} {g : Nat} {T : TypeId} {A B : Option Addr} {n c m d : Nat} {ts us : List Nd} (hg : RowA w g T #[.slice A n c, .slice B m d]) (h : TreR w A n c ts) (h2 : TreR w B m d us) : ChR w (some ⟨g, 0, none⟩) 2 [ts, us] := by
 refine ⟨rfl, by omega, fun i vs hi => ?_⟩
 match i, hi with
 | 0, hi =>
  cases hi
  exact ⟨g, 0, A, n, c, rfl, hg.lt, hg.cell (k := 0) rfl, h⟩
 | 1, hi =>
  cases hi
  exact ⟨g, 0, B, m, d, rfl, hg.lt, hg.cell (k := 1) rfl, h2⟩
end Go.Proofs.YtheaepceghnkpaaGreatDoor

/- What the statements' helper wakes of layer 14 answers, as a contract over memory. Condition: the tables of kinds read as they are laid. -/
namespace Go.Proofs.YtheaepceghnkpaaGreatDoor
open Go.RowKit Limb
set_option linter.unusedVariables false
def deepI (ts : List Nd) : Nat := if goodT ts = true then (depT ts).getD (ts.length - 1) 0 else 0
end Go.Proofs.YtheaepceghnkpaaGreatDoor

/- What trees that are put together tell: which may be, how deep they are. No condition. -/
namespace Go.Proofs.YtheaepceghnkpaaGreatDoor
open Go.RowKit Limb
set_option linter.unusedVariables false
theorem getD_one {o : List Nat} {j : Nat} (h : j < o.length) (a b : Nat) : o.getD j a = o.getD j b := by
 rw [List.getD_eq_getElem?_getD, List.getD_eq_getElem?_getD, List.getElem?_eq_getElem h]; rfl
theorem good_over {ts : List Nd} {x : Nd} (hg : goodT ts = true) (hl : ts.length + 1 ≤ 2000) (hf : fitsN x = true) (hk : oneK x.k = true) (ha : x.a = ((ts.length - 1 : Nat) : Int)) : goodT (ts ++ [x]) = true ∧ deepI (ts ++ [x]) = 1 + deepI ts := by
 obtain ⟨h1, h2, o, hb, hol, hlow, h0⟩ := good_all hg
 have h00 : o.getD (ts.length - 1) 0 = 0 := by rw [getD_one (by omega) 0 1]; exact h0
 have hs := stepB_one hf hk ha (by omega : o.length = ts.length - 1 + 1)
 rw [h00] at hs
 have hb2 : begT (ts ++ [x]) = some (o ++ [0]) := by
  unfold begT at hb ⊢
  rw [begF_append, hb, begF_step hs]; rfl
 have hlen : (ts ++ [x]).length = ts.length + 1 := by rw [List.length_append]; rfl
 have hg2 : goodT (ts ++ [x]) = true := by
  rw [goodT_of hb2 (by omega) (by omega), hlen, Nat.add_sub_cancel, ← hol, getD_snoc_eq]; rfl
 refine ⟨hg2, ?_⟩
 unfold deepI
 rw [if_pos hg2, if_pos hg, depT_snoc, hlen, Nat.add_sub_cancel]
 have h3 := getD_snoc_eq (depT ts) (depS (depT ts) x) 0
 rw [depT_len] at h3
 rw [h3]
 unfold depS
 rw [if_neg (by rw [one_not_two hk]; decide), if_pos hk, ha]
 rfl
theorem getD_two {o q : List Nat} {n j : Nat} (hn : o.length = n) (d : Nat) : (o ++ q).getD (n + j) d = q.getD j d := by subst hn; exact getD_app_ge j
theorem good_two {ts us : List Nd} {x : Nd} (hg : goodT ts = true) (hg' : goodT us = true) (hl : ts.length + us.length + 1 ≤ 2000) (hf : fitsN x = true) (hk : twoK x.k = true) (ha : x.a = ((ts.length - 1 : Nat) : Int)) (hb0 : x.b = ((ts.length + us.length - 1 : Nat) : Int)) :
 goodT (ts ++ us.map (shiftN ts.length) ++ [x]) = true ∧ deepI (ts ++ us.map (shiftN ts.length) ++ [x]) = 1 + max (deepI ts) (deepI us) ∧ goodT (ts ++ us.map (shiftN ts.length)) = false := by
 obtain ⟨h1, h2, o, hb, hol, hlow, h0⟩ := good_all hg
 obtain ⟨h1', h2', q, hb', hol', hlow', h0'⟩ := good_all hg'
 have h00 : o.getD (ts.length - 1) 0 = 0 := by rw [getD_one (by omega) 0 1]; exact h0
 have h00' : q.getD (us.length - 1) 0 = 0 := by rw [getD_one (by omega) 0 1]; exact h0'
 have hj := begT_join hb hb'
 have hjl : (o ++ q.map (· + ts.length)).length = ts.length + us.length := by rw [List.length_append, List.length_map, hol, hol']
 have hlen0 : (ts ++ us.map (shiftN ts.length)).length = ts.length + us.length := by rw [List.length_append, List.length_map]
 have hlast : (o ++ q.map (· + ts.length)).getD (ts.length + us.length - 1) 0 = ts.length := by
  rw [show ts.length + us.length - 1 = ts.length + (us.length - 1) by omega, getD_two hol, getD_map_add (by omega), h00', Nat.zero_add]
 have hs := stepB_two (o := o ++ q.map (· + ts.length)) hf hk hb0 (by omega) ha (by rw [hlast]; omega)
 have hfst : (o ++ q.map (· + ts.length)).getD (ts.length - 1) 0 = 0 := by
  rw [List.getD_eq_getElem?_getD, List.getElem?_append_left (by omega), ← List.getD_eq_getElem?_getD, h00]
 rw [hfst] at hs
 have hb2 : begT (ts ++ us.map (shiftN ts.length) ++ [x]) = some (o ++ q.map (· + ts.length) ++ [0]) := by
  unfold begT at hj ⊢
  rw [begF_append, hj, begF_step hs]; rfl
 have hlen : (ts ++ us.map (shiftN ts.length) ++ [x]).length = ts.length + us.length + 1 := by rw [List.length_append, hlen0]; rfl
 have hg2 : goodT (ts ++ us.map (shiftN ts.length) ++ [x]) = true := by
  rw [goodT_of hb2 (by omega) (by omega), hlen, Nat.add_sub_cancel, ← hjl, getD_snoc_eq]; rfl
 refine ⟨hg2, ?_, ?_⟩
 · unfold deepI
   rw [if_pos hg2, if_pos hg, if_pos hg', depT_snoc, hlen, Nat.add_sub_cancel]
   have h3 := getD_snoc_eq (depT (ts ++ us.map (shiftN ts.length))) (depS (depT (ts ++ us.map (shiftN ts.length))) x) 0
   rw [depT_len, hlen0] at h3
   rw [h3]
   unfold depS
   rw [if_pos hk, ha, hb0, depT_join hb', Int.toNat_natCast, Int.toNat_natCast]
   have e1 : (depT ts ++ depT us).getD (ts.length - 1) 0 = (depT ts).getD (ts.length - 1) 0 := by
    rw [List.getD_eq_getElem?_getD, List.getElem?_append_left (by rw [depT_len]; omega), ← List.getD_eq_getElem?_getD]
   have e2 : (depT ts ++ depT us).getD (ts.length + us.length - 1) 0 = (depT us).getD (us.length - 1) 0 := by
    rw [show ts.length + us.length - 1 = ts.length + (us.length - 1) by omega, getD_two (depT_len ts)]
   rw [e1, e2]
 · rw [goodT_of hj (by omega) (by omega), hlen0, decide_eq_false]
   rw [getD_one (by omega) 1 0, hlast]
   omega
end Go.Proofs.YtheaepceghnkpaaGreatDoor

/- Mathematics of the grammar: what is read leaves fewer tokens; trees that are read may be, have the nodes that were made, places within the text; faults lie within the text, or at its end. No condition. -/
namespace Go.Proofs.YtheaepceghnkpaaGreatDoor
open Go.RowKit Limb
set_option linter.unusedVariables false
def TokK (t : Tk) : Prop := okTk t = true ∧ Bytes t.2.1 ∧ (t.1 = 4 → t.2.1.all inUn = true)
def ToksK (l : List Tk) : Prop := ∀ t ∈ l, TokK t
theorem ToksK.tail {t : Tk} {l : List Tk} (h : ToksK (t :: l)) : ToksK l := fun x hx => h x (List.mem_cons_of_mem _ hx)
theorem ToksK.head {t : Tk} {l : List Tk} (h : ToksK (t :: l)) : TokK t := h t (List.mem_cons_self)
theorem ToksK.behind {x l : List Tk} (h : ToksK (x ++ l)) : ToksK l := fun y hy => h y (List.mem_append_right _ hy)
def semi (t : Tk) : Bool := isT 3 [59] t
def Took (l q : List Tk) : Prop := ∃ x, x ≠ [] ∧ l = x ++ q ∧ ∀ z ∈ x, semi z = false
theorem Took.cons {t : Tk} (h : semi t = false) (l : List Tk) : Took (t :: l) l := ⟨[t], by simp, rfl, fun z hz => by rw [List.mem_singleton.1 hz]; exact h⟩
theorem Took.trans {a b c : List Tk} (h : Took a b) (k : Took b c) : Took a c := by
 obtain ⟨x, hx, rfl, h1⟩ := h
 obtain ⟨y, hy, rfl, h2⟩ := k
 exact ⟨x ++ y, by simp [hx], by rw [List.append_assoc], fun z hz => (List.mem_append.1 hz).elim (h1 z) (h2 z)⟩
theorem Took.more {t : Tk} (ht : semi t = false) {l q : List Tk} (h : Took l q) : Took (t :: l) q := (Took.cons ht l).trans h
theorem semi_kind {t : Tk} {k : Nat} (h : t.1 = k) (hk : k ≠ 3) : semi t = false := by
 unfold semi isT
 rw [decide_eq_false (by rw [h]; exact hk)]; rfl
theorem isT_kind {kd : Nat} {tx : List Nat} {t : Tk} (h : isT kd tx t = true) : t.1 = kd ∧ (tx = [] ∨ t.2.1 = tx) := by
 unfold isT at h
 simp only [Bool.and_eq_true, Bool.or_eq_true, decide_eq_true_eq, List.isEmpty_iff] at h
 exact h
theorem semi_sign {t : Tk} {c : Nat} (h : isT 3 [c] t = true) (hc : c ≠ 59) : semi t = false := by
 rcases (isT_kind h).2 with e | e
 · cases e
 · unfold semi isT
   rw [e]
   simp [hc]
theorem semi_T {t : Tk} {k : Nat} {tx : List Nat} (h : isT k tx t = true) (hk : k ≠ 3) : semi t = false := semi_kind (isT_kind h).1 hk
theorem Took.len {l q : List Tk} (h : Took l q) : q.length < l.length := by
 obtain ⟨x, hx, rfl, _⟩ := h
 have := List.length_pos_iff.2 hx
 rw [List.length_append]; omega
theorem Took.mem {l q : List Tk} (h : Took l q) {z : Tk} (hz : z ∈ q) : z ∈ l := by
 obtain ⟨x, hx, rfl, _⟩ := h
 exact List.mem_append_right _ hz
theorem Took.toks {l q : List Tk} (h : Took l q) (k : ToksK l) : ToksK q := fun z hz => k z (h.mem hz)
def FaultK (en : Nat) (l : List Tk) (e p : Nat) : Prop := (e = 2 ∨ e = 12) ∧ (p = en ∨ ∃ z ∈ l, p = z.2.2)
theorem FaultK.up {en e p : Nat} {l q : List Tk} (h : FaultK en q e p) (hs : ∀ z ∈ q, z ∈ l) : FaultK en l e p := by
 obtain ⟨h1, h2⟩ := h
 refine ⟨h1, ?_⟩
 rcases h2 with h2 | ⟨z, hz, h2⟩
 · exact .inl h2
 · exact .inr ⟨z, hs z hz, h2⟩
theorem FaultK.here {en : Nat} {l : List Tk} {e : Nat} (h : e = 2 ∨ e = 12) : FaultK en l e (hereT en l) := by
 refine ⟨h, ?_⟩
 cases l with
 | nil => exact .inl rfl
 | cons t r => exact .inr ⟨t, List.mem_cons_self, rfl⟩
structure TreeK (L : Lim) (l : List Tk) (n0 : Nat) (t : List Nd) (n : Nat) : Prop where
 good : goodT t = true
 cnt : n = n0 + t.length
 lim : n ≤ L.nodes
 at' : ∀ y ∈ t, ∃ z ∈ l, y.p = (z.2.2 : Int)
 pow : ∀ y ∈ t, y.k = 8 → -(L.power : Int) ≤ y.n ∧ y.n ≤ (L.power : Int)
def PostF (L : Lim) (en : Nat) (l : List Tk) (n : Nat) : PaR (List Nd) → Prop
 | .ok t q m => Took l q ∧ TreeK L l n t m
 | .bad e p => FaultK en l e p
def Lim.Fit (L : Lim) : Prop := L.nodes ≤ 2000 ∧ L.power ≤ 64 ∧ L.deep ≤ 60 ∧ L.text ≤ 4000
def Fine (L : Lim) (en : Nat) (f : Rdr) : Prop := ∀ l n, ToksK l → PostF L en l n (f l n)
theorem TreeK.pos {L : Lim} {l : List Tk} {n0 n : Nat} {t : List Nd} (h : TreeK L l n0 t n) : 1 ≤ t.length := (good_all h.good).1
theorem TreeK.mono {L : Lim} {l q : List Tk} {n0 n : Nat} {t : List Nd} (h : TreeK L q n0 t n) (hs : ∀ z ∈ q, z ∈ l) : TreeK L l n0 t n := by
 obtain ⟨h1, h2, h3, h4, h5⟩ := h
 exact ⟨h1, h2, h3, fun y hy => by obtain ⟨z, hz, e⟩ := h4 y hy; exact ⟨z, hs z hz, e⟩, h5⟩
theorem TreeK.over {L : Lim} {l : List Tk} {n0 n : Nat} {t : List Nd} (h : TreeK L l n0 t n) (hL : L.Fit) (hn : n + 1 ≤ L.nodes) {k j : Int} (hk : oneK k = true) (hj : fitsN ⟨k, (t.length : Int) - 1, 0, j, ⟨#[]⟩, ⟨#[]⟩, 0⟩ = true) (hp : k = 8 → -(L.power : Int) ≤ j ∧ j ≤ (L.power : Int))
 {p : Nat} (hz : ∃ z ∈ l, p = z.2.2) : TreeK L l n0 (overN k j t p) (n + 1) := by
 obtain ⟨h1, h2, h3, h4, h5⟩ := h
 have hlen := (good_all h1).1
 refine ⟨(good_over (x := ⟨k, (t.length : Int) - 1, 0, j, ⟨#[]⟩, ⟨#[]⟩, p⟩) h1 (by have := hL.1; omega) hj hk (by show _ - _ = _; omega)).1, by unfold overN; rw [List.length_append]; simp; omega, hn, fun y hy => ?_, fun y hy => ?_⟩
 · unfold overN at hy
   rcases List.mem_append.1 hy with h | h
   · exact h4 y h
   · rw [List.mem_singleton.1 h]
     obtain ⟨z, hz, e⟩ := hz
     exact ⟨z, hz, by rw [e]⟩
 · unfold overN at hy
   rcases List.mem_append.1 hy with h | h
   · exact h5 y h
   · rw [List.mem_singleton.1 h]; exact hp
theorem shiftN_p (d : Nat) (x : Nd) : (shiftN d x).p = x.p := by
 unfold shiftN
 split
 · rfl
 · split <;> rfl
theorem shiftN_n (d : Nat) (x : Nd) : (shiftN d x).n = x.n := by
 unfold shiftN
 split
 · rfl
 · split <;> rfl
theorem TreeK.join {L : Lim} {l : List Tk} {n0 n m : Nat} {t u : List Nd} (h : TreeK L l n0 t n) (h' : TreeK L l n u m) (hL : L.Fit) (hn : m + 1 ≤ L.nodes) {k : Int} (hk : twoK k = true) {p : Nat} (hz : ∃ z ∈ l, p = z.2.2) : TreeK L l n0 (joinN k t u p) (m + 1) := by
 obtain ⟨h1, h2, h3, h4, h5⟩ := h
 obtain ⟨g1, g2, g3, g4, g5⟩ := h'
 have hlen := (good_all h1).1
 have hlen' := (good_all g1).1
 have hf : fitsN ⟨k, (t.length : Int) - 1, (t.length : Int) + (u.length : Int) - 1, 0, ⟨#[]⟩, ⟨#[]⟩, p⟩ = true := by
  have h36 := twoK_iff.1 hk
  unfold fitsN
  rw [if_neg (by show ¬ k = 1; omega), if_neg (by show ¬ k = 2; omega), if_pos hk]; rfl
 refine ⟨(good_two (x := ⟨k, (t.length : Int) - 1, (t.length : Int) + (u.length : Int) - 1, 0, ⟨#[]⟩, ⟨#[]⟩, p⟩) h1 g1 (by have := hL.1; omega) hf hk (by show _ - _ = _; omega) (by show _ - _ = _; omega)).1, by unfold joinN; simp; omega, hn, fun y hy => ?_, fun y hy => ?_⟩
 · unfold joinN at hy
   rcases List.mem_append.1 hy with h | h
   · rcases List.mem_append.1 h with h | h
     · exact h4 y h
     · obtain ⟨x, hx, rfl⟩ := List.mem_map.1 h
       rw [shiftN_p]
       exact g4 x hx
   · rw [List.mem_singleton.1 h]
     obtain ⟨z, hz, e⟩ := hz
     exact ⟨z, hz, by rw [e]⟩
 · unfold joinN at hy
   rcases List.mem_append.1 hy with h | h
   · rcases List.mem_append.1 h with h | h
     · exact h5 y h
     · obtain ⟨x, hx, rfl⟩ := List.mem_map.1 h
       rw [shiftN_k, shiftN_n]
       exact g5 x hx
   · rw [List.mem_singleton.1 h]
     intro e
     exact absurd (twoK_iff.1 hk) (by show ¬ (_ ∧ k ≤ 6); have : k = 8 := e; omega)
theorem nextT_cons {kd : Nat} {tx : List Nat} {l : List Tk} (h : nextT kd tx l = true) : ∃ t r, l = t :: r ∧ isT kd tx t = true := by
 cases l with
 | nil => cases h
 | cons t r => exact ⟨t, r, rfl, h⟩
def PostT (en : Nat) (l : List Tk) (n : Nat) (c : Tk → Prop) : PaR Tk → Prop
 | .ok t q m => l = t :: q ∧ c t ∧ m = n
 | .bad e p => FaultK en l e p
theorem FaultK.nil {en e : Nat} (h : e = 2 ∨ e = 12) : FaultK en [] e en := ⟨h, .inl rfl⟩
theorem FaultK.hd {en e : Nat} {t : Tk} {r : List Tk} (h : e = 2 ∨ e = 12) : FaultK en (t :: r) e t.2.2 := ⟨h, .inr ⟨t, List.mem_cons_self, rfl⟩⟩
theorem takeT_cons (en kd : Nat) (tx : List Nat) (t : Tk) (r : List Tk) (n : Nat) : takeT en kd tx (t :: r) n = if isT kd tx t = true then .ok t r n else .bad 12 t.2.2 := rfl
theorem nameT_cons (en : Nat) (t : Tk) (r : List Tk) (n : Nat) : nameT en (t :: r) n = if t.1 = 1 ∧ isNam t.2.1 = true then .ok t r n else .bad 12 t.2.2 := rfl
theorem takeT_post (en kd : Nat) (tx : List Nat) (l : List Tk) (n : Nat) : PostT en l n (fun t => isT kd tx t = true) (takeT en kd tx l n) := by
 cases l with
 | nil => exact FaultK.nil (.inr rfl)
 | cons t r =>
  rw [takeT_cons]
  by_cases h : isT kd tx t = true
  · rw [if_pos h]; exact ⟨rfl, h, rfl⟩
  · rw [if_neg h]; exact FaultK.hd (.inr rfl)
theorem nameT_post (en : Nat) (l : List Tk) (n : Nat) : PostT en l n (fun t => t.1 = 1 ∧ isNam t.2.1 = true) (nameT en l n) := by
 cases l with
 | nil => exact FaultK.nil (.inr rfl)
 | cons t r =>
  rw [nameT_cons]
  by_cases h : t.1 = 1 ∧ isNam t.2.1 = true
  · rw [if_pos h]; exact ⟨rfl, h, rfl⟩
  · rw [if_neg h]; exact FaultK.hd (.inr rfl)
theorem madeT_post {L : Lim} {en : Nat} {l q : List Tk} {n0 n p : Nat} {t : List Nd} (ht : Took l q) (hz : ∃ z ∈ l, p = z.2.2) (h : n + 1 ≤ L.nodes → TreeK L l n0 t (n + 1)) : PostF L en l n0 (madeT L t p q n) := by
 unfold madeT
 by_cases hn : L.nodes < n + 1
 · rw [if_pos hn]; exact ⟨.inl rfl, .inr hz⟩
 · rw [if_neg hn]; exact ⟨ht, h (by omega)⟩
theorem fits_pow {a j p : Int} (h1 : -64 ≤ j) (h2 : j ≤ 64) : fitsN ⟨8, a, 0, j, ⟨#[]⟩, ⟨#[]⟩, p⟩ = true := by
 unfold fitsN
 simp [twoK, h1, h2, ByteArray.size]
theorem fits_neg {a p : Int} : fitsN ⟨7, a, 0, 0, ⟨#[]⟩, ⟨#[]⟩, p⟩ = true := by
 unfold fitsN
 simp [twoK, ByteArray.size]
theorem powB_post {L : Lim} (hL : L.Fit) {en : Nat} {l q : List Tk} {n0 n pa : Nat} {t : List Nd} (hq : Took l q) (hz : ∃ z ∈ l, pa = z.2.2) (ht : TreeK L l n0 t n) (sg : Bool) : PostF L en l n0 (powB L en t pa sg q n) := by
 unfold powB
 have h := takeT_post en 2 [] q n
 cases hr : takeT en 2 [] q n with
 | bad e p => rw [hr] at h; exact FaultK.up h fun z hz => hq.mem hz
 | ok x r m =>
  rw [hr] at h
  obtain ⟨rfl, hx, rfl⟩ := h
  rw [PaR.next_ok]
  have hx' : x ∈ l := hq.mem List.mem_cons_self
  cases hs : smallT x.2.1 3 with
  | none => exact ⟨.inr rfl, .inr ⟨x, hx', rfl⟩⟩
  | some k =>
   dsimp only
   by_cases hk : L.power < k
   · rw [if_pos hk]; exact ⟨.inl rfl, .inr ⟨x, hx', rfl⟩⟩
   · rw [if_neg hk]
     have h64 := hL.2.1
     have hb : -(L.power : Int) ≤ (if sg = true then -(k : Int) else (k : Int)) ∧ (if sg = true then -(k : Int) else (k : Int)) ≤ (L.power : Int) := by cases sg <;> simp <;> omega
     refine madeT_post (hq.trans (Took.cons (semi_T hx (by decide)) _)) hz fun hn => ht.over hL hn (by decide) ?_ (fun _ => hb) hz
     exact fits_pow (by omega) (by omega)
theorem powT_post {L : Lim} (hL : L.Fit) {en : Nat} {l q : List Tk} {n0 n : Nat} {t : List Nd} (hq : Took l q) (ht : TreeK L l n0 t n) : PostF L en l n0 (powT L en t q n) := by
 unfold powT
 by_cases h1 : nextT 3 [94] q = true
 · rw [if_pos h1]
   obtain ⟨x, r, rfl, hx⟩ := nextT_cons h1
   have hz : ∃ z ∈ l, hereT en (x :: r) = z.2.2 := ⟨x, hq.mem List.mem_cons_self, rfl⟩
   by_cases h2 : nextT 3 [45] (x :: r).tail = true
   · rw [if_pos h2]
     obtain ⟨y, q, he, hy⟩ := nextT_cons h2
     have he2 : r = y :: q := he
     subst he2
     exact powB_post hL ((hq.trans (Took.cons (semi_sign hx (by decide)) _)).trans (Took.cons (semi_sign hy (by decide)) _)) hz ht true
   · rw [if_neg h2]
     exact powB_post hL (hq.trans (Took.cons (semi_sign hx (by decide)) _)) hz ht false
 · rw [if_neg h1]; exact ⟨hq, ht⟩
theorem TokK.lit {t : Tk} (h : TokK t) (hk : t.1 = 2) : litGood t.2.1 = true := by
 have h1 := h.1
 unfold okTk at h1
 rw [if_neg (by rw [hk]; decide), if_pos hk] at h1; exact h1
theorem TokK.unit {t : Tk} (h : TokK t) (hk : t.1 = 4) : 1 ≤ t.2.1.length ∧ t.2.1.length ≤ 200 := by
 have h1 := h.1
 unfold okTk at h1
 rw [if_neg (by rw [hk]; decide), if_neg (by rw [hk]; decide), if_neg (by rw [hk]; decide), if_pos hk] at h1
 simpa using h1
theorem unitOk_of {u : List Nat} (hb : Bytes u) (hl : u.length ≤ 200) (ha : u.all inUn = true) : unitOk (strOf u) = true := by
 unfold unitOk
 rw [size_strOf, bytesOf_strOf hb, decide_eq_true hl, Bool.true_and]
 rw [List.all_eq_true] at ha ⊢
 intro c hc
 have := ha c hc
 unfold inUn at this
 simp only [Bool.and_eq_true, decide_eq_true_eq] at this
 simp [this.1, this.2]
theorem TokK.units {t : Tk} (h : TokK t) (hk : t.1 = 4) : unitOk (strOf t.2.1) = true := unitOk_of h.2.1 (h.unit hk).2 (h.2.2 hk)
theorem leaf_good {x : Nd} (hk : x.k = 1 ∨ x.k = 2) (hf : fitsN x = true) : goodT [x] = true := by
 have hs : stepB [] x = some ([] : List Nat).length := stepB_leaf hf hk
 have hb : begT [x] = some [0] := begF_step hs []
 rw [goodT_of hb (by simp) (by simp)]; rfl
theorem TreeK.leaf {L : Lim} {l : List Tk} {n p : Nat} {x : Nd} (hk : x.k = 1 ∨ x.k = 2) (hf : fitsN x = true) (hn : n + 1 ≤ L.nodes) (hp : x.p = (p : Int)) (hz : ∃ z ∈ l, p = z.2.2) : TreeK L l n [x] (n + 1) :=
 ⟨leaf_good hk hf, rfl, hn, fun y hy => by rw [List.mem_singleton.1 hy]; obtain ⟨z, hz, e⟩ := hz; exact ⟨z, hz, by rw [hp, e]⟩, fun y hy h8 => by rw [List.mem_singleton.1 hy] at h8; rcases hk with h | h <;> omega⟩
theorem fits_lit {s u : ByteArray} {p : Int} (hs : litGood (bytesOf s) = true) (hu : unitOk u = true) : fitsN ⟨1, 0, 0, 0, s, u, p⟩ = true := by
 unfold fitsN
 rw [if_pos rfl]
 simp [hs, hu]
theorem fits_ref {s : ByteArray} {p : Int} (hs : isNam (bytesOf s) = true) : fitsN ⟨2, 0, 0, 0, s, ⟨#[]⟩, p⟩ = true := by
 unfold fitsN
 rw [if_neg (by show ¬ (2 : Int) = 1; decide), if_pos rfl]
 simp [hs, ByteArray.size]
theorem atomT_post {L : Lim} {en : Nat} {l : List Tk} (n : Nat) (hl : ToksK l) : PostF L en l n (atomT L en l n) := by
 unfold atomT
 cases l with
 | nil => exact FaultK.nil (.inr rfl)
 | cons x r =>
  dsimp only
  have hx := hl.head
  have hz : ∃ z ∈ x :: r, x.2.2 = z.2.2 := ⟨x, List.mem_cons_self, rfl⟩
  by_cases h : isT 2 [] x = true
  · rw [if_pos h]
    have hk := (isT_kind h).1
    have hg : litGood (bytesOf (strOf x.2.1)) = true := by rw [bytesOf_strOf hx.2.1]; exact hx.lit hk
    have hno : PostF L en (x :: r) n (madeT L (litN x.2.1 [] x.2.2) x.2.2 r n) := madeT_post (Took.cons (semi_T h (by decide)) _) hz fun hn => TreeK.leaf (.inl rfl) (fits_lit hg (by decide)) hn rfl hz
    cases r with
    | nil => exact hno
    | cons y q =>
     dsimp only
     by_cases h4 : isT 4 [] y = true
     · rw [if_pos h4]
       exact madeT_post ((Took.cons (semi_T h (by decide)) _).trans (Took.cons (semi_T h4 (by decide)) _)) hz fun hn => TreeK.leaf (.inl rfl) (fits_lit hg (hl.tail.head.units (isT_kind h4).1)) hn rfl hz
     · rw [if_neg h4]; exact hno
  · rw [if_neg h]
    by_cases h1 : x.1 = 1 ∧ isNam x.2.1 = true
    · rw [if_pos h1]
      exact madeT_post (Took.cons (semi_kind h1.1 (by decide)) _) hz fun hn => TreeK.leaf (.inr rfl) (fits_ref (by rw [bytesOf_strOf hx.2.1]; exact h1.2)) hn rfl hz
    · rw [if_neg h1]; exact FaultK.hd (.inr rfl)
theorem PostF.bad {L : Lim} {en : Nat} {l q : List Tk} {n m e p : Nat} {t : PaR (List Nd)} (h : PostF L en q m (.bad e p)) (hs : ∀ z ∈ q, z ∈ l) : PostF L en l n (.bad e p) := FaultK.up h hs
theorem loopT_post {L : Lim} (hL : L.Fit) {en : Nat} {f : Rdr} (hf : Fine L en f) {op : Tk → Option Int} (ho : ∀ x k, op x = some k → twoK k = true ∧ semi x = false) {l : List Tk} (hl : ToksK l) {n0 : Nat} : ∀ (g : Nat) (t : List Nd) (q : List Tk) (n : Nat), Took l q → TreeK L l n0 t n → PostF L en l n0 (loopT L f op g t q n) := by
 intro g
 induction g with
 | zero => intro t q n h1 h2; exact ⟨h1, h2⟩
 | succ g ih =>
  intro t q n h1 h2
  cases q with
  | nil => exact ⟨h1, h2⟩
  | cons x r =>
   unfold loopT
   cases hop : op x with
   | none => exact ⟨h1, h2⟩
   | some k =>
    dsimp only
    have hr : Took l r := h1.trans (Took.cons (ho x k hop).2 _)
    have h := hf r n (hr.toks hl)
    cases hfr : f r n with
    | bad e p => rw [hfr] at h; exact FaultK.up h fun z hz => hr.mem hz
    | ok u r2 n2 =>
     rw [hfr] at h
     obtain ⟨k1, k2⟩ := h
     rw [PaR.next_ok]
     have hz : ∃ z ∈ l, x.2.2 = z.2.2 := ⟨x, h1.mem List.mem_cons_self, rfl⟩
     unfold madeT
     by_cases hn : L.nodes < n2 + 1
     · rw [if_pos hn]; exact ⟨.inl rfl, .inr hz⟩
     · rw [if_neg hn, PaR.next_ok]
       exact ih _ _ _ (hr.trans k1) (h2.join (k2.mono fun z hz => hr.mem hz) hL (by omega) (ho x k hop).1 hz)
theorem rowT_fine {L : Lim} (hL : L.Fit) {en : Nat} {f : Rdr} (hf : Fine L en f) {op : Tk → Option Int} (ho : ∀ x k, op x = some k → twoK k = true ∧ semi x = false) : Fine L en (rowT L f op) := by
 intro l n hl
 unfold rowT
 have h := hf l n hl
 cases hfr : f l n with
 | bad e p => rw [hfr] at h; exact h
 | ok t r m => rw [hfr] at h; exact loopT_post hL hf ho hl _ _ _ _ h.1 h.2
theorem mulO_two (x : Tk) (k : Int) (h : mulO x = some k) : twoK k = true ∧ semi x = false := by
 unfold mulO at h
 split at h
 · rename_i h9
   injection h with h; subst h; exact ⟨by decide, semi_sign h9 (by decide)⟩
 · split at h
   · rename_i h9
     injection h with h; subst h; exact ⟨by decide, semi_sign h9 (by decide)⟩
   · cases h
theorem addO_two (x : Tk) (k : Int) (h : addO x = some k) : twoK k = true ∧ semi x = false := by
 unfold addO at h
 split at h
 · rename_i h9
   injection h with h; subst h; exact ⟨by decide, semi_sign h9 (by decide)⟩
 · split at h
   · rename_i h9
     injection h with h; subst h; exact ⟨by decide, semi_sign h9 (by decide)⟩
   · cases h
theorem formT_fine {L : Lim} (hL : L.Fit) {en : Nat} {f : Rdr} (hf : Fine L en f) : Fine L en (formT L f) := rowT_fine hL (rowT_fine hL hf mulO_two) addO_two
theorem facS_fine {L : Lim} (hL : L.Fit) {en : Nat} {sub : Option Rdr} (hs : ∀ f, sub = some f → Fine L en f) : Fine L en (facS L en sub) := by
 intro l n hl
 unfold facS
 by_cases h1 : nextT 3 [45] l = true
 · rw [if_pos h1]
   obtain ⟨x, r, rfl, hx⟩ := nextT_cons h1
   cases sub with
   | none => exact FaultK.here (.inl rfl)
   | some f =>
    dsimp only
    have h := hs f rfl r n hl.tail
    show PostF L en (x :: r) n ((f r n).next _)
    cases hfr : f r n with
    | bad e p => rw [hfr] at h; exact FaultK.up h fun z hz => List.mem_cons_of_mem _ hz
    | ok a q m =>
     rw [hfr] at h
     rw [PaR.next_ok]
     have hz : ∃ z ∈ x :: r, hereT en (x :: r) = z.2.2 := ⟨x, List.mem_cons_self, rfl⟩
     exact madeT_post (h.1.more (semi_sign hx (by decide))) hz fun hn => (h.2.mono fun z hz => List.mem_cons_of_mem _ hz).over hL hn (by decide) fits_neg (fun h => absurd h (by decide)) hz
 · rw [if_neg h1]
   by_cases h2 : nextT 3 [40] l = true
   · rw [if_pos h2]
     obtain ⟨x, r, rfl, hx⟩ := nextT_cons h2
     cases sub with
     | none => exact FaultK.here (.inl rfl)
     | some f =>
      dsimp only
      have h := formT_fine hL (hs f rfl) r n hl.tail
      show PostF L en (x :: r) n ((formT L f r n).next _)
      cases hfr : formT L f r n with
      | bad e p => rw [hfr] at h; exact FaultK.up h fun z hz => List.mem_cons_of_mem _ hz
      | ok a q m =>
       rw [hfr] at h
       rw [PaR.next_ok]
       have hk := takeT_post en 3 [41] q m
       cases ht : takeT en 3 [41] q m with
       | bad e p => rw [ht] at hk; exact FaultK.up hk fun z hz => List.mem_cons_of_mem _ (h.1.mem hz)
       | ok y s m2 =>
        rw [ht] at hk
        obtain ⟨rfl, hy, rfl⟩ := hk
        rw [PaR.next_ok]
        exact powT_post hL ((h.1.more (semi_sign hx (by decide))).trans (Took.cons (semi_sign hy (by decide)) _)) (h.2.mono fun z hz => List.mem_cons_of_mem _ hz)
   · rw [if_neg h2]
     have h := atomT_post (L := L) (en := en) n hl
     cases ha : atomT L en l n with
     | bad e p => rw [ha] at h; exact h
     | ok a q m => rw [ha] at h; exact powT_post hL h.1 h.2
theorem facT_fine {L : Lim} (hL : L.Fit) (en : Nat) : ∀ d, Fine L en (facT L en d)
 | 0 => facS_fine hL fun f h => by cases h
 | d + 1 => facS_fine hL fun f h => by injection h with h; subst h; exact facT_fine hL en d
theorem formL_fine {L : Lim} (hL : L.Fit) (en : Nat) : Fine L en (formL L en) := formT_fine hL (facT_fine hL en L.deep)
end Go.Proofs.YtheaepceghnkpaaGreatDoor
