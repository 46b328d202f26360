/- Part 2 of the texts that the statements of this seat lean on: mathematics, and what functions answer, as contracts over memory; each part says its own conditions. -/
import Derived.Test.YtannifhcjcbkcaaGreatDoorMB1
import Derived.Test.YtannifhcjcbkcaaGreatDoorShelf
import Derived.Lib.IndexLaws
import Derived.BigQuiet
import Derived.Deep.QuietTactic
import Derived.Shelf.Small.Utf8
import Derived.Lib.TrimU
import Derived.Lib.OthersKept
import Derived.WalkMore
set_option linter.unusedVariables false
set_option maxHeartbeats 8000000
namespace Go.Proofs.YtannifhcjcbkcaaGreatDoor
open Go.RowKit Limb
open Lib (hid)
theorem yj4 : ∀ {l : List UInt8} {c : UInt8}, c ∉ l → Lib.indexByte l c = -1
 | [], _, _ => rfl
 | b :: l, c, h => by
  have h1 : (b == c) = false := by rw [beq_eq_false_iff_ne]; intro e; exact h (by simp [e])
  have h2 : c ∉ l := fun e => h (List.mem_cons_of_mem _ e)
  rw [Lib.indexByte, h1, yj4 h2];rfl
theorem yvd : ∀ {a : List UInt8} {c : UInt8} (b : List UInt8), c ∉ a → Lib.indexByte (a ++ c :: b) c = (a.length : Int)
 | [], c, b, _ => by
  show Lib.indexByte (c :: b) c = _;rw [Lib.indexByte, beq_self_eq_true];rfl
 | x :: a, c, b, h => by
  have h1 : (x == c) = false := by rw [beq_eq_false_iff_ne]; intro e; exact h (by simp [e])
  have h2 : c ∉ a := fun e => h (List.mem_cons_of_mem _ e)
  show Lib.indexByte (x :: (a ++ c :: b)) c = _;rw [Lib.indexByte, h1, yvd b h2];have h3 : ((a.length : Int) == -1) = false := by rw [beq_eq_false_iff_ne]; omega
  rw [h3, List.length_cons];simp only [Bool.false_eq_true, if_false];omega
theorem yqv {s : ByteArray} {c : UInt8} (h : c.toNat ∉ bytesOf s) : Lib.indexByte s.data.toList c = -1 :=
 yj4 fun e => h (List.mem_map_of_mem e)
theorem yjg {s : ByteArray} {c : UInt8} {a b : List Nat} (h : bytesOf s = a ++ c.toNat :: b) (hn : c.toNat ∉ a) : Lib.indexByte s.data.toList c = (a.length : Int) := by
 obtain ⟨l1, l2, e1, e2, e3⟩ := List.map_eq_append_iff.1 h;obtain ⟨y, l3, e4, e5, e6⟩ := List.map_eq_cons_iff.1 e3;have e7 : y = c := UInt8.toNat_inj.1 e5;subst e7;rw [e1, e4, yvd l3 (fun e => hn (by rw [← e2]; exact List.mem_map_of_mem e)), ← e2, List.length_map]
set_option maxRecDepth 4000 in
theorem sCut_hit (s : ByteArray) (hs : s.size ≤ 1000000000) (c : UInt8) (a b : List Nat) (h : bytesOf s = a ++ c.toNat :: b) (hn : c.toNat ∉ a) (w : World) :
 Calls Tryz.prog 153 #[.string s, .string ⟨#[c]⟩] w fun e w' => ∃ S1 S2, e = .returned (.tuple #[.string S1, .string S2, .bool true]) ∧ bytesOf S1 = a ∧ bytesOf S2 = b ∧ Below w.heap.size w w' := by
 have hi := yjg h hn;have hl : a.length + 1 + b.length = s.size := by rw [← xqe, h, List.length_append, List.length_cons]; omega
 obtain ⟨k, hk⟩ : ∃ k, a.length = k := ⟨_, rfl⟩;rw [hk] at hi hl;have hk1 : k ≤ s.size := by omega
 have hk2 : k + 1 ≤ s.size := by omega
 have HI := hid hi;obtain ⟨S1, hS1⟩ : ∃ S1, s.extract 0 k = S1 := ⟨_, rfl⟩;obtain ⟨S2, hS2⟩ : ∃ S2, s.extract (k + 1) s.size = S2 := ⟨_, rfl⟩;have H1 : RowKit.Hid (bytesOf S1 = a) := by
  show _ = _;rw [← hS1, xze, List.drop_zero, Nat.sub_zero, h, ← hk, List.take_left]
 have H2 : RowKit.Hid (bytesOf S2 = b) := by
  show _ = _;rw [← hS2, xze, h, ← hk];have e : (a ++ c.toNat :: b).drop (a.length + 1) = b := by
   rw [← List.drop_drop, List.drop_left]; rfl
  rw [e];exact List.take_of_length_le (by omega)
 have HN := hid (below_drewN (Below.refl w.heap.size w));have hk3 : (0 : Int) ≤ (k : Int) := by omega
 have hk4 : (k : Int) ≤ (s.size : Int) := by omega
 have hk5 : (0 : Int) ≤ (k : Int) + 1 := by omega
 have hk6 : (k : Int) + 1 ≤ (s.size : Int) := by omega
 clear hi h hn hk;go_enter Tryz.func153, Tryz.ntmps153;go_wp2_with fail
 refine (Any.stringslite_Index_one Tryz.lays219 s c w).mono ?_;rw [HI.out];rintro e w1 ⟨rfl, rfl⟩;go_wp2
 go_quiet (fail)
 have bn := HN.out nq;generalize w1.drewN nq = w2 at *;go_wp2
 go_ret3
 exact ⟨S1, S2, rfl, H1.out, H2.out, bn⟩
theorem sCut_miss (s : ByteArray) (c : UInt8) (hn : c.toNat ∉ bytesOf s) (w : World) :
 Calls Tryz.prog 153 #[.string s, .string ⟨#[c]⟩] w fun e w' => e = .returned (.tuple #[.string s, .string ⟨#[]⟩, .bool false]) ∧ w = w' := by
 have HI := hid (yqv hn);clear hn;go_enter Tryz.func153, Tryz.ntmps153;go_wp2_with fail
 refine (Any.stringslite_Index_one Tryz.lays219 s c w).mono ?_;rw [HI.out];rintro e w1 ⟨rfl, rfl⟩;go_wp2
 go_ret3
 exact ⟨rfl, rfl⟩
theorem cutAt_c (s : ByteArray) (hs : s.size ≤ 1000000000) (c : UInt8) (a b : List Nat) (h : bytesOf s = a ++ c.toNat :: b ∨ (bytesOf s = a ∧ b = [])) (hn : c.toNat ∉ a) (w : World) :
 Calls Tryz.prog 132 #[.string s, .string ⟨#[c]⟩] w fun e w' => ∃ S1 S2 f, e = .returned (.tuple #[.string S1, .string S2, .bool f]) ∧ bytesOf S1 = a ∧ bytesOf S2 = b ∧ Below w.heap.size w w' := by
 rcases h with h | ⟨h, hb⟩
 · have HC := hid (sCut_hit s hs c a b h hn w);clear h hn;go_enter Tryz.func132, Tryz.ntmps132;go_wp2_with fail
   refine HC.out.mono ?_;rintro e w1 ⟨S1, S2, rfl, h1, h2, hb⟩;have H1 := hid h1;have H2 := hid h2;have HB := hid hb;clear h1 h2 hb;go_wp2
   go_ret3
   exact ⟨S1, S2, true, rfl, H1.out, H2.out, HB.out⟩
 · rw [← h] at hn;have HC := hid (sCut_miss s c hn w);have H1 := hid h;have H2 := hid hb;clear h hb hn;go_enter Tryz.func132, Tryz.ntmps132;go_wp2_with fail
   refine HC.out.mono ?_;rintro e w1 ⟨rfl, rfl⟩;go_wp2
   go_ret3
   exact ⟨s, ⟨#[]⟩, false, rfl, H1.out, by rw [H2.out]; rfl, Below.refl _ _⟩
theorem cutHit_c (s : ByteArray) (hs : s.size ≤ 1000000000) (c : UInt8) (a b : List Nat) (h : bytesOf s = a ++ c.toNat :: b) (hn : c.toNat ∉ a) (w : World) :
 Calls Tryz.prog 132 #[.string s, .string ⟨#[c]⟩] w fun e w' => ∃ S1 S2, e = .returned (.tuple #[.string S1, .string S2, .bool true]) ∧ bytesOf S1 = a ∧ bytesOf S2 = b ∧ Below w.heap.size w w' := by
 have HC := hid (sCut_hit s hs c a b h hn w);clear h hn;go_enter Tryz.func132, Tryz.ntmps132;go_wp2_with fail
 refine HC.out.mono ?_;rintro e w1 ⟨S1, S2, rfl, h1, h2, hb⟩;have H1 := hid h1;have H2 := hid h2;have HB := hid hb;clear h1 h2 hb;go_wp2
 go_ret3
 exact ⟨S1, S2, rfl, H1.out, H2.out, HB.out⟩
theorem cutMiss_c (s : ByteArray) (c : UInt8) (hn : c.toNat ∉ bytesOf s) (w : World) :
 Calls Tryz.prog 132 #[.string s, .string ⟨#[c]⟩] w fun e w' => e = .returned (.tuple #[.string s, .string ⟨#[]⟩, .bool false]) ∧ Below w.heap.size w w' := by
 have HC := hid (sCut_miss s c hn w);clear hn;go_enter Tryz.func132, Tryz.ntmps132;go_wp2_with fail
 refine HC.out.mono ?_;rintro e w1 ⟨rfl, rfl⟩;go_wp2
 go_ret3
 exact ⟨rfl, Below.refl _ _⟩
theorem lkN_in {s : ByteArray} {k v : Nat} (h : lkN (lim (bytesOf s) k) = v) (h0 : v ≠ 0) : k < (bytesOf s).length := by
 rcases Nat.lt_or_ge k (bytesOf s).length with h2 | h2
 · exact h2
 · rw [yjp h2] at h; exact absurd h.symm h0
theorem yzz {p q : Nat → Bool} : ∀ (l : List Nat), l.takeWhile (fun c => q c && p c) = (l.takeWhile p).takeWhile q
 | [] => rfl
 | a :: l => by
  by_cases hp : p a = true
  · rw [List.takeWhile_cons_of_pos hp];by_cases hq : q a = true
    · rw [List.takeWhile_cons_of_pos (by simp [hp, hq]), List.takeWhile_cons_of_pos hq, yzz l]
    · rw [List.takeWhile_cons_of_neg (by simp [hq]), List.takeWhile_cons_of_neg hq]
  · rw [List.takeWhile_cons_of_neg (by simp [hp]), List.takeWhile_cons_of_neg hp]; rfl
theorem unit_index {s X : ByteArray} {r : List Nat} {k : Int} {n : Nat} (hr : bytesOf s = 91 :: r) (hX : bytesOf X = (bytesOf s).takeWhile xvt) (hk : Lib.indexByte X.data.toList 93 = k) (hn : unitL (bytesOf s) = n) :
 (k < 2 ∨ 201 < k) ∧ n = 0 ∨ 2 ≤ k ∧ k ≤ 201 ∧ (n : Int) = k + 1 := by
 rw [hr] at hX hn;rw [List.takeWhile_cons_of_pos (by decide)] at hX;have e1 : r.takeWhile yqg = (r.takeWhile xvt).takeWhile (fun c => decide (c ≠ 93)) := yzz r;obtain ⟨v, q1, q2, q3⟩ := zqf (p := fun c => decide (c ≠ 93)) (r := r.takeWhile xvt) rfl;rw [← e1] at q1 q2;generalize hm : r.takeWhile yqg = m at *;have hno : (93 : UInt8).toNat ∉ m := fun h => by
  rw [← hm] at h;have := yzx (p := yqg) _ h;exact absurd this (by decide)
 have hno2 : (93 : UInt8).toNat ∉ 91 :: m := fun h => by
  rcases List.mem_cons.1 h with h | h
  · exact absurd h (by decide)
  · exact hno h
 have hl : (r.takeWhile xvt).length ≤ r.length := (List.takeWhile_sublist _).length_le;have hun : n = if m.length = 0 ∨ 200 < m.length ∨ yji (r.drop m.length) = false then 0 else m.length + 2 := by
  rw [← hn]; unfold unitL; dsimp only; rw [hm]
 have hpre : r.take (r.takeWhile xvt).length = r.takeWhile xvt := xz5 r;rcases q3 with hv | ⟨d, q, hv, hd⟩
 · -- no bracket in the line
   rw [hv, List.append_nil] at q1;have hm1 : k = -1 := by
    rw [← hk];refine yqv ?_;rw [hX, q1];exact hno2
   refine .inl ⟨.inl (by omega), ?_⟩;rw [hun, if_pos];refine .inr (.inr ?_);cases e : r.drop m.length with
   | nil => rfl
   | cons c z =>
    have hc : xvt c = false := by
     have e2 : r.drop (r.takeWhile xvt).length = c :: z := by rw [q1]; exact e
     exact yjj e2
    have hc2 : c = 10 := by unfold xvt at hc; simpa using hc
    subst hc2; rfl
 · have hd2 : d = 93 := by simpa using hd
   subst hd2;rw [hv] at q1;have hkm : k = ((91 :: m).length : Int) := by
    rw [← hk];refine yjg (b := q) ?_ hno2;rw [hX, q1]; rfl
   have hc : yji (r.drop m.length) = true := by
    have e3 : r.takeWhile xvt <+: r := List.takeWhile_prefix _;obtain ⟨z, hz⟩ := e3;rw [← hz, q1, List.append_assoc, List.drop_left];rfl
   rw [hc] at hun;rw [List.length_cons] at hkm;by_cases h0 : m.length = 0
   · rw [if_pos (.inl h0)] at hun;exact .inl ⟨.inl (by omega), hun⟩
   · by_cases h2 : 200 < m.length
     · rw [if_pos (.inr (.inl h2))] at hun;exact .inl ⟨.inr (by omega), hun⟩
     · rw [if_neg (by rintro (h | h | h); · exact h0 h
                      · exact h2 h
                      · cases h)] at hun
       exact .inr ⟨by omega, by omega, by omega⟩
set_option maxRecDepth 4000 in
theorem ywl (s : ByteArray) (hs : s.size ≤ 9223372036854775807) (i : Nat) (V : Int) (hV : V = i) (w : World) (T : NTab w) (v : Nat) (hv : lkN (lim (bytesOf s) i) = v) :
 Calls Tryz.prog 131 #[.string s, .int .i64 V] w fun e w' => e = .returned (.int .u8 (v : Int)) ∧ w = w' := by
 subst hV;by_cases hlt : i < s.size
 · obtain ⟨d, hd⟩ : ∃ d, (s[i]'hlt).toNat = d := ⟨_, rfl⟩;have hdl : lim (bytesOf s) i = d := by rw [← Limb.byte_at s i hlt, hd]
   have hd2 : d < 256 := by rw [← hd]; exact UInt8.toNat_lt _
   rw [hdl] at hv;by_cases h1 : d < 123
   · have hc := T d h1;rw [hv] at hc;clear hv hdl T;go_enter Tryz.func131, Tryz.ntmps131;go_wp2
     go_ret
     exact ⟨rfl, rfl⟩
   · have h2 : 123 ≤ d := by omega
     rw [lkN_big h2] at hv;subst hv;clear hdl T h1;go_enter Tryz.func131, Tryz.ntmps131;go_wp2
     go_ret
     exact ⟨rfl, rfl⟩
 · have h2 : s.size ≤ i := by omega
   have h0 : lim (bytesOf s) i = 0 := yjp (by rw [xqe]; exact h2);rw [h0] at hv;obtain rfl : v = 0 := by rw [← hv]; rfl
   clear hv h0 T hlt;go_enter Tryz.func131, Tryz.ntmps131;go_wp2
   go_ret
   exact ⟨rfl, rfl⟩
set_option maxRecDepth 4000 in
theorem lkWord_c (s : ByteArray) (hs : s.size ≤ 9223372036854775807) (w : World) (T : NTab w) (n : Nat) (hn : wordL (bytesOf s) = n) :
 Calls Tryz.prog 101 #[.string s] w fun e w' => e = .returned (.int .i64 (n : Int)) ∧ w = w' := by
 have HT := hid T;have Hn := hid hn;clear T hn;go_enter Tryz.func101, Tryz.ntmps101;go_wp2
 go_loopw [3] (fun i wr => ∃ k : Nat, i = .int .i64 (k : Int) ∧ k ≤ s.size ∧ Hid (k ≤ yvu (bytesOf s)) ∧ w = wr) (fun i _ => s.size - (intOf i).toNat)
 case atStart => exact ⟨0, rfl, Nat.zero_le _, Nat.zero_le _, rfl⟩
 case round =>
  obtain ⟨k, rfl, hk, HK, rfl⟩ := hrel;obtain ⟨v, hv⟩ : ∃ v, lkN (lim (bytesOf s) k) = v := ⟨_, rfl⟩;have HV := hid hv;have HA := hid (lkN_all _ (byte_lt s k));clear hv;by_cases h3 : v = 3
  · subst h3;have HK2 : Hid (k + 1 ≤ yvu (bytesOf s)) := word_step HK.out (lkN_in HV.out (by omega)) (by unfold wdAt; rw [HA.out.2.2.1.1 HV.out]; rfl);have hk4 : k < s.size := by have := lkN_in HV.out (by omega); rw [xqe] at this; exact this
    clear HK;go_wp2_with (go_at_call 131; refine (ywl s hs k _ rfl _ HT.out _ HV.out).mono ?_; rintro e w1 ⟨rfl, rfl⟩)
    go_roundw
    case rel => exact ⟨k + 1, by go_num, by omega, HK2, by first | rfl | trivial⟩
    case measure => simp [intOf]; omega
  · have HL3 : Hid (yjv (lim (bytesOf s) k) = false) := by
     show _ = _;rcases Bool.eq_false_or_eq_true (yjv (lim (bytesOf s) k)) with e | e
     · exact absurd (HV.out.symm.trans (HA.out.2.2.1.2 e)) h3
     · exact e
    have e3 : ((v : Int) == 3) = false := by rw [beq_eq_false_iff_ne]; omega
    by_cases k0 : k = 0
    · subst k0;obtain ⟨k, ek⟩ : ∃ k, k = 0 := ⟨_, rfl⟩;rw [← ek] at HK HV HL3 HA;have HE : Hid (yvu (bytesOf s) = k) := word_stop HK.out (fun _ => by unfold wdAt; rw [HL3.out, ek]; rfl);clear HK;subst ek;have HR : Hid (n = 0) := by show _ = _; rw [← Hn.out]; unfold wordL; rw [HE.out]; rfl
      clear HE;go_wp2_with (go_at_call 131; refine (ywl s hs 0 _ rfl _ HT.out _ HV.out).mono ?_; rintro e w1 ⟨rfl, rfl⟩);go_ret
      exact ⟨by rw [HR.out]; rfl, rfl⟩
    · have k1 : 0 < k := by omega
      by_cases h4 : v = 4
      · subst h4;have HK2 : Hid (k + 1 ≤ yvu (bytesOf s)) := word_step HK.out (lkN_in HV.out (by omega)) (by unfold wdAt; rw [HA.out.2.2.2.1.1 HV.out, HL3.out, decide_eq_true k1]; rfl);have hk4 : k < s.size := by have := lkN_in HV.out (by omega); rw [xqe] at this; exact this
        clear HK;go_wp2_with (go_at_call 131; refine (ywl s hs k _ rfl _ HT.out _ HV.out).mono ?_; rintro e w1 ⟨rfl, rfl⟩)
        go_roundw
        case rel => exact ⟨k + 1, by go_num, by omega, HK2, by first | rfl | trivial⟩
        case measure => simp [intOf]; omega
      · have HL4 : Hid (xq2 (lim (bytesOf s) k) = false) := by
         show _ = _;rcases Bool.eq_false_or_eq_true (xq2 (lim (bytesOf s) k)) with e | e
         · exact absurd (HV.out.symm.trans (HA.out.2.2.2.1.2 e)) h4
         · exact e
        have e4 : ((v : Int) == 4) = false := by rw [beq_eq_false_iff_ne]; omega
        have HE : Hid (yvu (bytesOf s) = k) := word_stop HK.out (fun _ => by unfold wdAt; rw [HL3.out, HL4.out, Bool.and_false]; rfl);clear HK;by_cases h16 : 16 < k
        · have HR : Hid (n = 0) := by show _ = _; rw [← Hn.out]; unfold wordL; rw [HE.out, if_pos h16]
          clear HE;go_wp2_with (go_at_call 131; refine (ywl s hs k _ rfl _ HT.out _ HV.out).mono ?_; rintro e w1 ⟨rfl, rfl⟩);go_ret
          exact ⟨by rw [HR.out]; rfl, rfl⟩
        · have HR : Hid (n = k) := by show _ = _; rw [← Hn.out]; unfold wordL; rw [HE.out, if_neg h16]
          clear HE;go_wp2_with (go_at_call 131; refine (ywl s hs k _ rfl _ HT.out _ HV.out).mono ?_; rintro e w1 ⟨rfl, rfl⟩);go_ret
          exact ⟨by rw [HR.out]; rfl, rfl⟩
set_option maxRecDepth 4000 in
theorem lkLine_c (s : ByteArray) (hs : s.size ≤ 1000000000) (w : World) (n : Nat) (hn : ((bytesOf s).takeWhile xvt).length = n) :
 Calls Tryz.prog 137 #[.string s] w fun e w' => e = .returned (.int .i64 (n : Int)) ∧ Below w.heap.size w w' := by
 obtain ⟨v, q1, q2, q3⟩ := zqf (p := xvt) (r := bytesOf s) rfl;have hno : (10 : UInt8).toNat ∉ (bytesOf s).takeWhile xvt := fun h => notNl_of (fun c hc => yzx c hc) 10 h rfl
 have hcut : bytesOf s = (bytesOf s).takeWhile xvt ++ (10 : UInt8).toNat :: v.tail ∨ (bytesOf s = (bytesOf s).takeWhile xvt ∧ v.tail = []) := by
  rcases q3 with rfl | ⟨d, q, rfl, hd⟩
  · exact .inr ⟨by conv => lhs; rw [q1, List.append_nil], rfl⟩
  · have hd2 : d = 10 := by unfold xvt at hd; simpa using hd
    subst hd2;exact .inl q1
 have HC := hid (cutAt_c s hs 10 _ _ hcut hno w);have Hn := hid hn;clear q1 q2 q3 hno hcut hn;go_enter Tryz.func137, Tryz.ntmps137;go_wp2_with fail
 refine HC.out.mono ?_;rintro e w1 ⟨S1, S2, fl, rfl, k1, k2, bn⟩;have HB := hid bn;have HS : Hid (S1.size = n) := by show _ = _; rw [← xqe, k1, Hn.out]
 clear k1 k2 bn;go_wp2
 go_ret
 exact ⟨by rw [HS.out]; rfl, HB.out⟩
set_option maxRecDepth 4000 in
theorem lkNum_c (s : ByteArray) (hs : s.size ≤ 9223372036854775807) (w : World) (T : XTab w) (n : Nat) (hn : numL (bytesOf s) = n) :
 Calls Tryz.prog 138 #[.string s] w fun e w' => e = .returned (.int .i64 (n : Int)) ∧ w = w' := by
 obtain ⟨m, hm⟩ : ∃ m, xjv (bytesOf s) = m := ⟨_, rfl⟩;obtain ⟨v, hv⟩ : ∃ v, lkN (lim (bytesOf s) m) = v := ⟨_, rfl⟩;have hA := lkN_all _ (byte_lt s m);have hml : m ≤ (bytesOf s).length := by rw [← hm]; exact zq1 _
 have hst : stopN ((bytesOf s).drop m) = (decide (v = 3) || decide (v = 5)) := by
  rcases Nat.lt_or_ge m (bytesOf s).length with h | h
  · rw [xw2 h];show (yjv (lim (bytesOf s) m) || decide (lim (bytesOf s) m = 46)) = _;rw [Bool.eq_iff_iff];simp only [Bool.or_eq_true, decide_eq_true_eq];rw [← hA.2.2.1, ← hA.2.2.2.2.1, hv]
  · rw [List.drop_eq_nil_of_le h];have h0 := yjp h;rw [h0] at hv;subst hv;rfl
 have HLn := hid (litLen_c s hs w T.1 m hm);have HKn := hid (ywl s hs m _ rfl w T.2 v hv);have HR : Hid (n = if 400 < m ∨ v = 3 ∨ v = 5 then 0 else m) := by
  show _ = _;rw [← hn];unfold numL;rw [hm, hst];simp only [Bool.or_eq_true, decide_eq_true_eq]
 have hmz : m ≤ 9223372036854775807 := by rw [xqe] at hml; omega
 clear hA hml hst hv hm hn T;by_cases h4 : 400 < m
 · rw [if_pos (.inl h4)] at HR;go_enter Tryz.func138, Tryz.ntmps138;go_wp2_with (first | (go_at_call 149; (with_reducible refine HLn.out.mono ?_); rintro e w1 ⟨rfl, rfl⟩) | (go_at_call 131; (with_reducible refine HKn.out.mono ?_); rintro e w1 ⟨rfl, rfl⟩));go_ret
   exact ⟨by rw [HR.out]; rfl, rfl⟩
 · by_cases h3 : v = 3
   · subst h3;rw [if_pos (.inr (.inl rfl))] at HR;go_enter Tryz.func138, Tryz.ntmps138;go_wp2_with (first | (go_at_call 149; (with_reducible refine HLn.out.mono ?_); rintro e w1 ⟨rfl, rfl⟩) | (go_at_call 131; (with_reducible refine HKn.out.mono ?_); rintro e w1 ⟨rfl, rfl⟩));go_ret
     exact ⟨by rw [HR.out]; rfl, rfl⟩
   · have e3 : ((v : Int) == 3) = false := by rw [beq_eq_false_iff_ne]; omega
     by_cases h5 : v = 5
     · subst h5;rw [if_pos (.inr (.inr rfl))] at HR;go_enter Tryz.func138, Tryz.ntmps138;go_wp2_with (first | (go_at_call 149; (with_reducible refine HLn.out.mono ?_); rintro e w1 ⟨rfl, rfl⟩) | (go_at_call 131; (with_reducible refine HKn.out.mono ?_); rintro e w1 ⟨rfl, rfl⟩));go_ret
       exact ⟨by rw [HR.out]; rfl, rfl⟩
     · have e5 : ((v : Int) == 5) = false := by rw [beq_eq_false_iff_ne]; omega
       rw [if_neg (by omega)] at HR;go_enter Tryz.func138, Tryz.ntmps138;go_wp2_with (first | (go_at_call 149; (with_reducible refine HLn.out.mono ?_); rintro e w1 ⟨rfl, rfl⟩) | (go_at_call 131; (with_reducible refine HKn.out.mono ?_); rintro e w1 ⟨rfl, rfl⟩));go_ret
       exact ⟨by rw [HR.out]; rfl, rfl⟩
set_option maxRecDepth 4000 in
theorem lkUnits_c (s : ByteArray) (hs : s.size ≤ 1000000000) (r : List Nat) (hr : bytesOf s = 91 :: r) (w : World) (n : Nat) (hn : unitL (bytesOf s) = n) :
 Calls Tryz.prog 139 #[.string s] w fun e w' => e = .returned (.int .i64 (n : Int)) ∧ Below w.heap.size w w' := by
 obtain ⟨m, hm⟩ : ∃ m, ((bytesOf s).takeWhile xvt).length = m := ⟨_, rfl⟩;have hms : m ≤ s.size := by rw [← xqe, ← hm]; exact (List.takeWhile_sublist _).length_le
 obtain ⟨X, hX⟩ : ∃ X, s.extract 0 m = X := ⟨_, rfl⟩;have hXb : bytesOf X = (bytesOf s).takeWhile xvt := by rw [← hX, xze, List.drop_zero, Nat.sub_zero, ← hm, xz5]
 obtain ⟨k, hk⟩ : ∃ k, Lib.indexByte X.data.toList 93 = k := ⟨_, rfl⟩;have HR : Hid ((k < 2 ∨ 201 < k) ∧ n = 0 ∨ 2 ≤ k ∧ k ≤ 201 ∧ (n : Int) = k + 1) := unit_index hr hXb hk hn;have HL := hid (lkLine_c s hs w m hm);have HX := hid hXb;have HK := hid hk;clear hXb hk hn hr hm;go_enter Tryz.func139, Tryz.ntmps139;go_wp2_with fail
 refine HL.out.mono ?_;rintro e w1 ⟨rfl, bn⟩;have HB := hid bn;clear bn;go_wp2_with fail
 refine (Any.strings_IndexByte Tryz.lays137 X 93 w1).mono ?_;rintro e w2 ⟨rfl, rfl⟩;rw [show (93 : Int).toNat.toUInt8 = (93 : UInt8) from rfl, HK.out];rcases HR.out with ⟨h1 | h1, rfl⟩ | ⟨h1, h2, h3⟩
 · clear HR;go_wp2
   go_ret
   exact ⟨rfl, HB.out⟩
 · clear HR;have h1b : 2 ≤ k := by omega
   go_wp2
   go_ret
   exact ⟨rfl, HB.out⟩
 · clear HR;have H3 := hid h3;clear h3;go_wp2
   go_ret
   exact ⟨by rw [H3.out]; rfl, HB.out⟩
set_option maxRecDepth 4000 in
theorem yw0 (s : ByteArray) (hs : s.size ≤ 1000000000) (w : World) :
 Calls Tryz.prog 140 #[.string s] w fun e w' => e = .returned (.string s) ∧ Below w.heap.size w w' := by
 have HC := hid (Any.stringslite_Clone Tryz.laysM316 s w (by omega));go_enter Tryz.func140, Tryz.ntmps140;go_wp2_with fail
 refine HC.out.mono ?_;rintro e w1 ⟨rfl, bn⟩;have HB := hid bn;clear bn;go_wp2
 go_ret
 exact ⟨rfl, HB.out⟩
set_option maxRecDepth 4000 in
theorem lkGap_c (s : ByteArray) (hs : s.size ≤ 1000000000) (w : World) (T : NTab w) :
 Calls Tryz.prog 107 #[.string s] w fun e w' => ∃ n : Nat, e = .returned (.int .i64 (n : Int)) ∧ Gap (bytesOf s) n ∧ Stop (bytesOf s) n ∧ Below w.heap.size w w' := by
 have HT := hid T;have HL := hid (xqe s);clear T;go_enter Tryz.func107, Tryz.ntmps107;go_wp2
 go_loopw [3] (fun i wr => ∃ k : Nat, i = .int .i64 (k : Int) ∧ k ≤ s.size ∧ Hid (Gap (bytesOf s) k) ∧ Hid (Below w.heap.size w wr)) (fun i _ => s.size - (intOf i).toNat)
 case atStart => exact ⟨0, rfl, Nat.zero_le _, Gap.zero _, Below.refl _ _⟩
 case round =>
  obtain ⟨k, rfl, hk, HG, HB⟩ := hrel;obtain ⟨v, hv⟩ : ∃ v, lkN (lim (bytesOf s) k) = v := ⟨_, rfl⟩;have HV := hid hv;have HA := hid (lkN_all _ (byte_lt s k));have HTn : Hid (NTab wr) := fun i hi => (HB.out.cell (p := ⟨2, i, none⟩) (xzb (HT.out i hi))).trans (HT.out i hi)
  clear hv;go_wp2_with fail
  refine (ywl s (by omega) k _ rfl _ HTn.out _ HV.out).mono ?_;rintro e wx ⟨rfl, rfl⟩;by_cases h1 : v = 1
  · subst h1;have hin : Hid (k < (bytesOf s).length) := lkN_in HV.out (by decide);have hk4 : k < s.size := by have := hin.out; rw [xqe] at this; exact this
    have HG2 : Hid (Gap (bytesOf s) (k + 1)) := HG.out.skip (xw2 hin.out) (skip_blank (HA.out.1.1 HV.out));clear HG;go_wp2
    go_roundw
    case rel => exact ⟨k + 1, by go_num, by omega, HG2, HB⟩
    case measure => simp [intOf]; omega
  · have e1 : ((v : Int) == 1) = false := by rw [beq_eq_false_iff_ne]; omega
    by_cases h2 : v = 2
    · subst h2;have hin : Hid (k < (bytesOf s).length) := lkN_in HV.out (by decide);have hk4 : k < s.size := by have := hin.out; rw [xqe] at this; exact this
      have h35 : lim (bytesOf s) k = 35 := HA.out.2.1.1 HV.out;have hd : (bytesOf s).drop k = 35 :: (bytesOf s).drop (k + 1) := by rw [xw2 hin.out, h35]
      obtain ⟨m, hm⟩ : ∃ m, ((bytesOf s).drop k).takeWhile xvt = m := ⟨_, rfl⟩;have hm2 : m.length = 1 + (((bytesOf s).drop (k + 1)).takeWhile xvt).length := by rw [← hm, hd, note_line]
      have HG2 : Hid (Gap (bytesOf s) (k + m.length)) := by show Gap _ _; rw [hm2]; exact HG.out.skip hd skip_note
      have hkm : k + m.length ≤ s.size := by rw [← HL.out]; exact HG2.out.1
      have hm1 : 1 ≤ m.length := by omega
      obtain ⟨X, hX⟩ : ∃ X, s.extract k s.size = X := ⟨_, rfl⟩;have HX : Hid (bytesOf X = (bytesOf s).drop k) := by show _ = _; rw [← hX]; exact yq6 s k
      have hXs : X.size = s.size - k := by rw [← hX]; exact tail_size s hk
      have Hm := hid hm;obtain ⟨q, hq⟩ : ∃ q, m.length = q := ⟨_, rfl⟩;have Hq := hid hq;rw [hq] at hkm hm1 HG2;clear h35 hd hm2 HG hm hq;go_wp2_with fail
      refine (lkLine_c X (by omega) wr q (by rw [HX.out, Hm.out]; exact Hq.out)).mono ?_;rintro e w2 ⟨rfl, bn⟩;have HB2 := hid (xqa HB.out bn);clear bn HB hXs;go_wp2
      go_roundw
      case rel => exact ⟨k + q, by go_num, by omega, HG2, HB2⟩
      case measure => simp [intOf]; omega
    · have e2 : ((v : Int) == 2) = false := by rw [beq_eq_false_iff_ne]; omega
      have HS : Hid (Stop (bytesOf s) k) := by
       intro c r hd;have hin : k < (bytesOf s).length := by
        rcases Nat.lt_or_ge k (bytesOf s).length with h | h
        · exact h
        · rw [List.drop_eq_nil_of_le h] at hd; cases hd
       rw [xw2 hin] at hd;injection hd with hc _
       refine ⟨?_, fun e => h2 (HV.out.symm.trans (HA.out.2.1.2 (hc.trans e)))⟩;rcases Bool.eq_false_or_eq_true (isBl c) with e | e
       · exact absurd (HV.out.symm.trans (HA.out.1.2 (by rw [hc]; exact e))) h1
       · exact e
      go_wp2
      go_ret
      exact ⟨k, rfl, HG.out, HS.out, HB.out⟩
set_option maxRecDepth 4000 in
theorem lkFirst_c (s : ByteArray) (hs : s.size ≤ 1000000000) (c : Nat) (r : List Nat) (hr : bytesOf s = c :: r) (hst : Hid (isBl c = false ∧ c ≠ 35)) (w : World) (T : XTab w) :
 Calls Tryz.prog 108 #[.string s] w fun e w' => ∃ k n : Nat, e = .returned (.tuple #[.int .i64 (k : Int), .int .i64 (n : Int)]) ∧ FirstP c r k n ∧ Below w.heap.size w w' := by
 obtain ⟨v, hv⟩ : ∃ v, lkN c = v := ⟨_, rfl⟩;have hc0 : lim (bytesOf s) 0 = c := by rw [hr]; rfl
 have HV := hid hv;have HA := hid (lkN_all c (by rw [← hc0]; exact byte_lt s 0));have HK := hid (ywl s (by omega) 0 0 rfl w T.2 v (by rw [hc0]; exact hv));have HT := hid T;have HTn : Hid (NTab w) := T.2;have HR := hid hr;obtain ⟨n3, h3'⟩ : ∃ n, wordL (bytesOf s) = n := ⟨_, rfl⟩;obtain ⟨n4, h4'⟩ : ∃ n, numL (bytesOf s) = n := ⟨_, rfl⟩;obtain ⟨n7, h7'⟩ : ∃ n, unitL (bytesOf s) = n := ⟨_, rfl⟩;have H3 := hid h3';have H4 := hid h4';have H7 := hid h7';clear hv hc0 T hr h3' h4' h7';by_cases h3 : v = 3
 · subst h3;have HF : Hid (FirstP c r 1 n3) := by show FirstP _ _ _ _; rw [← H3.out, HR.out]; exact first_word (HA.out.2.2.1.1 HV.out)
   go_enter Tryz.func108, Tryz.ntmps108;go_wp2_with (first | (go_at_call 131; (with_reducible refine HK.out.mono ?_); rintro e w1 ⟨rfl, rfl⟩) | (go_at_call 101; (with_reducible refine (lkWord_c s (by omega) w HTn.out n3 H3.out).mono ?_); rintro e w1 ⟨rfl, rfl⟩));go_ret2
   exact ⟨1, n3, rfl, HF.out, Below.refl _ _⟩
 · have e3 : ((v : Int) == 3) = false := by rw [beq_eq_false_iff_ne]; omega
   by_cases h4 : v = 4
   · subst h4;have HF : Hid (FirstP c r 2 n4) := by show FirstP _ _ _ _; rw [← H4.out, HR.out]; exact first_num (HA.out.2.2.2.1.1 HV.out)
     go_enter Tryz.func108, Tryz.ntmps108;go_wp2_with (first | (go_at_call 131; (with_reducible refine HK.out.mono ?_); rintro e w1 ⟨rfl, rfl⟩) | (go_at_call 138; (with_reducible refine (lkNum_c s (by omega) w HT.out n4 H4.out).mono ?_); rintro e w1 ⟨rfl, rfl⟩));go_ret2
     exact ⟨2, n4, rfl, HF.out, Below.refl _ _⟩
   · have e4 : ((v : Int) == 4) = false := by rw [beq_eq_false_iff_ne]; omega
     by_cases h6 : v = 6
     · subst h6;have HF : Hid (FirstP c r 3 1) := first_sign (HA.out.2.2.2.2.2.1.1 HV.out);go_enter Tryz.func108, Tryz.ntmps108;go_wp2_with (go_at_call 131; (with_reducible refine HK.out.mono ?_); rintro e w1 ⟨rfl, rfl⟩);go_ret2
       exact ⟨3, 1, rfl, HF.out, Below.refl _ _⟩
     · have e6 : ((v : Int) == 6) = false := by rw [beq_eq_false_iff_ne]; omega
       by_cases h7 : v = 7
       · subst h7;have hc : c = 91 := HA.out.2.2.2.2.2.2.1 HV.out;have HU := hid (lkUnits_c s hs r (by rw [HR.out, hc]) w n7 H7.out);have HF : Hid (FirstP c r 4 n7) := by show FirstP _ _ _ _; rw [← H7.out, HR.out, hc]; exact first_unit
         clear hc;go_enter Tryz.func108, Tryz.ntmps108;go_wp2_with (go_at_call 131; (with_reducible refine HK.out.mono ?_); rintro e w1 ⟨rfl, rfl⟩);refine HU.out.mono ?_;rintro e w2 ⟨rfl, bn⟩;have HB := hid bn;clear bn;go_wp2
         go_ret2
         exact ⟨4, n7, rfl, HF.out, HB.out⟩
       · have e7 : ((v : Int) == 7) = false := by rw [beq_eq_false_iff_ne]; omega
         have HF : Hid (FirstP c r 0 0) := by
          have no : ∀ {b : Bool}, ¬ b = true → b = false := fun h => by simpa using h
          exact first_none 0 hst.out.1 hst.out.2 (no fun e => h3 (HV.out.symm.trans (HA.out.2.2.1.2 e))) (no fun e => h4 (HV.out.symm.trans (HA.out.2.2.2.1.2 e))) (fun e => h7 (HV.out.symm.trans (HA.out.2.2.2.2.2.2.2 e))) (no fun e => h6 (HV.out.symm.trans (HA.out.2.2.2.2.2.1.2 e)))
         go_enter Tryz.func108, Tryz.ntmps108;go_wp2_with (go_at_call 131; (with_reducible refine HK.out.mono ?_); rintro e w1 ⟨rfl, rfl⟩);go_ret2
         exact ⟨0, 0, rfl, HF.out, Below.refl _ _⟩
set_option maxRecDepth 4000 in
theorem lkText_c (s : ByteArray) (hs : s.size ≤ 1000000000) (k : Nat) (t : List Nat) (a : Nat) (hr : rawT (k, t, a) = bytesOf s) (w : World) :
 Calls Tryz.prog 109 #[.int .i64 (k : Int), .string s] w fun e w' => e = .returned (.string (strOf t)) ∧ Below w.heap.size w w' := by
 unfold rawT at hr;dsimp only at hr;by_cases h4 : k = 4
 · subst h4;rw [if_pos rfl] at hr;have hl : s.size = t.length + 2 := by rw [← xqe, ← hr]; simp
   obtain ⟨X, hX⟩ : ∃ X, s.extract 1 (t.length + 1) = X := ⟨_, rfl⟩;have hXb : bytesOf X = t := by rw [← hX, xze, ← hr]; simp
   have HX : Hid (strOf t = X) := by show _ = _; rw [← hXb, xzt]
   have hXs : X.size = t.length := by rw [← xqe, hXb]
   obtain ⟨q, hq⟩ : ∃ q, t.length = q := ⟨_, rfl⟩;rw [hq] at hl hX hXs;have hw : (s.size : Int) - 1 = ((q + 1 : Nat) : Int) := by omega
   clear hXb hr hq;go_enter Tryz.func109, Tryz.ntmps109;go_wp2_with fail
   refine (yw0 X (by omega) w).mono ?_;rintro e w1 ⟨rfl, bn⟩;have HB := hid bn;clear bn;go_wp2
   go_ret
   exact ⟨by rw [HX.out]; rfl, HB.out⟩
 · rw [if_neg h4] at hr;have HX : Hid (strOf t = s) := by show _ = _; rw [hr, xzt]
   have e4 : ((k : Int) == 4) = false := by rw [beq_eq_false_iff_ne]; omega
   clear hr;go_enter Tryz.func109, Tryz.ntmps109;go_wp2_with fail
   refine (yw0 s (by omega) w).mono ?_;rintro e w1 ⟨rfl, bn⟩;have HB := hid bn;clear bn;go_wp2
   go_ret
   exact ⟨by rw [HX.out]; rfl, HB.out⟩
theorem xww (s : ByteArray) (W : List Nat) (hB : W.all (fun x => decide (x < 256)) = true) : (s.toList == W.map UInt8.ofNat) = decide (bytesOf s = W) := by
 have hW : Bytes W := fun x hx => of_decide_eq_true (List.all_eq_true.1 hB x hx)
 have := yzb (a := bytesOf s) (b := W) (xjg s) hW
 rwa [xzt, xv0] at this
set_option maxRecDepth 4000 in
theorem xj0 (s : ByteArray) (hs : s.size ≤ 9223372036854775807) (w : World) (T : NTab w) (v : Bool) (hv : xjn (bytesOf s) = v) :
 Calls Tryz.prog 62 #[.string s] w fun e w' => e = .returned (.bool v) ∧ w = w' := by
 have HL := hid (xqe s);have HT := hid T;have Hv := hid hv;clear T hv;by_cases h0 : bytesOf s = []
 · have f0 : (s.toList == ([] : List UInt8)) = true := (xww s [] (by decide)).trans (decide_eq_true h0);have HV : Hid (v = false) := by show _ = _; rw [← Hv.out, h0]; decide
   clear h0;go_enter Tryz.func62, Tryz.ntmps62;go_wp2
   go_ret
   exact ⟨by rw [HV.out]; rfl, rfl⟩
 · have f0 : (s.toList == ([] : List UInt8)) = false := (xww s [] (by decide)).trans (decide_eq_false h0);by_cases h1 : bytesOf s = [117, 110, 105, 116]
   · have f1 : (s.toList == ([117, 110, 105, 116] : List UInt8)) = true := (xww s [117, 110, 105, 116] (by decide)).trans (decide_eq_true h1);have HV : Hid (v = false) := by show _ = _; rw [← Hv.out, h1]; decide
     clear h1;go_enter Tryz.func62, Tryz.ntmps62;go_wp2
     go_ret
     exact ⟨by rw [HV.out]; rfl, rfl⟩
   · have f1 : (s.toList == ([117, 110, 105, 116] : List UInt8)) = false := (xww s [117, 110, 105, 116] (by decide)).trans (decide_eq_false h1);by_cases h2 : bytesOf s = [115, 111, 117, 114, 99, 101]
     · have f2 : (s.toList == ([115, 111, 117, 114, 99, 101] : List UInt8)) = true := (xww s [115, 111, 117, 114, 99, 101] (by decide)).trans (decide_eq_true h2);have HV : Hid (v = false) := by show _ = _; rw [← Hv.out, h2]; decide
       clear h2;go_enter Tryz.func62, Tryz.ntmps62;go_wp2
       go_ret
       exact ⟨by rw [HV.out]; rfl, rfl⟩
     · have f2 : (s.toList == ([115, 111, 117, 114, 99, 101] : List UInt8)) = false := (xww s [115, 111, 117, 114, 99, 101] (by decide)).trans (decide_eq_false h2);by_cases h3 : bytesOf s = [99, 111, 118]
       · have f3 : (s.toList == ([99, 111, 118] : List UInt8)) = true := (xww s [99, 111, 118] (by decide)).trans (decide_eq_true h3);have HV : Hid (v = false) := by show _ = _; rw [← Hv.out, h3]; decide
         clear h3;go_enter Tryz.func62, Tryz.ntmps62;go_wp2
         go_ret
         exact ⟨by rw [HV.out]; rfl, rfl⟩
       · have f3 : (s.toList == ([99, 111, 118] : List UInt8)) = false := (xww s [99, 111, 118] (by decide)).trans (decide_eq_false h3);by_cases h4 : bytesOf s = [108, 101, 116]
         · have f4 : (s.toList == ([108, 101, 116] : List UInt8)) = true := (xww s [108, 101, 116] (by decide)).trans (decide_eq_true h4);have HV : Hid (v = false) := by show _ = _; rw [← Hv.out, h4]; decide
           clear h4;go_enter Tryz.func62, Tryz.ntmps62;go_wp2
           go_ret
           exact ⟨by rw [HV.out]; rfl, rfl⟩
         · have f4 : (s.toList == ([108, 101, 116] : List UInt8)) = false := (xww s [108, 101, 116] (by decide)).trans (decide_eq_false h4);by_cases h5 : bytesOf s = [111, 117, 116, 112, 117, 116]
           · have f5 : (s.toList == ([111, 117, 116, 112, 117, 116] : List UInt8)) = true := (xww s [111, 117, 116, 112, 117, 116] (by decide)).trans (decide_eq_true h5);have HV : Hid (v = false) := by show _ = _; rw [← Hv.out, h5]; decide
             clear h5;go_enter Tryz.func62, Tryz.ntmps62;go_wp2
             go_ret
             exact ⟨by rw [HV.out]; rfl, rfl⟩
           · have f5 : (s.toList == ([111, 117, 116, 112, 117, 116] : List UInt8)) = false := (xww s [111, 117, 116, 112, 117, 116] (by decide)).trans (decide_eq_false h5);by_cases h6 : bytesOf s = [105, 110]
             · have f6 : (s.toList == ([105, 110] : List UInt8)) = true := (xww s [105, 110] (by decide)).trans (decide_eq_true h6);have HV : Hid (v = false) := by show _ = _; rw [← Hv.out, h6]; decide
               clear h6;go_enter Tryz.func62, Tryz.ntmps62;go_wp2
               go_ret
               exact ⟨by rw [HV.out]; rfl, rfl⟩
             · have f6 : (s.toList == ([105, 110] : List UInt8)) = false := (xww s [105, 110] (by decide)).trans (decide_eq_false h6);have hown : ownW (bytesOf s) = false := by
                unfold ownW;simp only [List.contains_cons, List.contains_nil, Bool.or_false, Bool.or_eq_false_iff, beq_eq_false_iff_ne];exact ⟨h1, h2, h3, h4, h5, h6⟩
               obtain ⟨n, hn⟩ : ∃ n, wordL (bytesOf s) = n := ⟨_, rfl⟩;have HV : Hid (v = decide (n = s.size)) := by
                show _ = _;rw [← Hv.out, ← hn, ← HL.out, wordL_is _ h0];unfold xjn;rw [hown, Bool.not_false, Bool.and_true]
               have HN := hid hn;clear hown hn h0 h1 h2 h3 h4 h5 h6;go_enter Tryz.func62, Tryz.ntmps62;go_wp2_with (go_at_call 101; (with_reducible refine (lkWord_c s hs w HT.out n HN.out).mono ?_); rintro e w1 ⟨rfl, rfl⟩);go_ret
               refine ⟨?_, rfl⟩;rw [HV.out];refine ret_bool ?_;rw [Bool.eq_iff_iff]
               simp
               try omega
def ownN (x : Nd) : Nd :=
 if x.k = 1 then ⟨x.k, 0, 0, 0, x.t, x.u, x.p⟩ else if x.k = 2 then ⟨x.k, 0, 0, 0, x.t, ⟨#[]⟩, x.p⟩ else if xq8 x.k = true then ⟨x.k, x.a, x.b, 0, ⟨#[]⟩, ⟨#[]⟩, x.p⟩
 else if x.k = 7 then ⟨x.k, x.a, 0, 0, ⟨#[]⟩, ⟨#[]⟩, x.p⟩ else if x.k = 8 then ⟨x.k, x.a, 0, x.n, ⟨#[]⟩, ⟨#[]⟩, x.p⟩ else zNd
theorem two_no {k : Int} (h3 : ¬ k = 3) (h4 : ¬ k = 4) (h5 : ¬ k = 5) (h6 : ¬ k = 6) : ¬ xq8 k = true := fun e => by have := twoK_iff.1 e; omega
set_option maxRecDepth 100000 in
theorem tOwn_c (k a b n : Int) (t u : ByteArray) (p : Int) (V : Array Value) (hV : ndV (ownN ⟨k, a, b, n, t, u, p⟩) = V) (w : World) :
 Calls Tryz.prog 123 #[.agg (ndC k a b n t u p)] w fun e w' => e = .returned (.agg V) ∧ Below w.heap.size w w' := by
 have HZ := hid (xqd (w.alloc (.cells (ndC k a b n t u p) 51)) 51 zN);simp only [World.size_alloc] at HZ;have bw := xqc w (.cells (ndC k a b n t u p) 51);have bw2 := xqa bw (xqc (w.alloc (.cells (ndC k a b n t u p) 51)) (.cells zN 51));have HE := hid (xqv bw2 (g := w.heap.size + 1) (by omega) V);have HU := hid (xz0 (ownN ⟨k, a, b, n, t, u, p⟩) zNd);rw [hV] at HU;have HR := hid (HZ.out.fill (V' := V));have HV2 := hid hV;clear bw bw2 hV;by_cases h1 : k = 1
 · subst h1;have HVe : Hid (V = ndC 1 0 0 0 t u p) := by show _ = _; rw [← HV2.out]; unfold ownN; dsimp only; rw [if_pos rfl]; rfl
   have HB := hid (show ∀ W, (Instr.build 51 ([(0, .int .i64 1), (4, .string t), (5, .string u), (6, .int .i64 p)] : List (Nat × Value)).toArray).run Tryz.prog W = .ok (.agg V) W by intro W; rw [HVe.out]; kernel_rfl);clear HVe HV2;go_enter Tryz.func123, Tryz.ntmps123;go_wp2_with (first | (refine xqn (by rfl) _ _ (by rfl) _ (by rfl) _ (by assumption) ?_) | (refine xqi (by rfl) _ _ _ (by rfl) _ (by rfl) _ (by rfl) _ _ HZ HU ?_));refine bodyPost_ret (results_cell_row rfl _ _ _ 51 V (0, 0) _ rfl HR.out Tryz.underlying51 rfl (by first | exact HU.out.1.1 | skip)) rfl ?_;exact ⟨rfl, HE.out⟩
 · have e1 : (k == 1) = false := by rw [beq_eq_false_iff_ne]; exact h1
   by_cases h2 : k = 2
   · subst h2;have HVe : Hid (V = ndC 2 0 0 0 t ⟨#[]⟩ p) := by show _ = _; rw [← HV2.out]; unfold ownN; dsimp only; rw [if_neg (by decide), if_pos rfl]; rfl
     have HB := hid (show ∀ W, (Instr.build 51 ([(0, .int .i64 2), (4, .string t), (6, .int .i64 p)] : List (Nat × Value)).toArray).run Tryz.prog W = .ok (.agg V) W by intro W; rw [HVe.out]; kernel_rfl);clear HVe HV2;go_enter Tryz.func123, Tryz.ntmps123;go_wp2_with (first | (refine xqn (by rfl) _ _ (by rfl) _ (by rfl) _ (by assumption) ?_) | (refine xqi (by rfl) _ _ _ (by rfl) _ (by rfl) _ (by rfl) _ _ HZ HU ?_));refine bodyPost_ret (results_cell_row rfl _ _ _ 51 V (0, 0) _ rfl HR.out Tryz.underlying51 rfl (by first | exact HU.out.1.1 | skip)) rfl ?_;exact ⟨rfl, HE.out⟩
   · have e2 : (k == 2) = false := by rw [beq_eq_false_iff_ne]; exact h2
     by_cases h3 : k = 3
     · subst h3;have HVe : Hid (V = ndC 3 a b 0 ⟨#[]⟩ ⟨#[]⟩ p) := by show _ = _; rw [← HV2.out]; unfold ownN; dsimp only; rw [if_neg (by decide), if_neg (by decide), if_pos (by decide)]; rfl
       have HB := hid (show ∀ W, (Instr.build 51 ([(0, .int .i64 3), (1, .int .i64 a), (2, .int .i64 b), (6, .int .i64 p)] : List (Nat × Value)).toArray).run Tryz.prog W = .ok (.agg V) W by intro W; rw [HVe.out]; kernel_rfl);clear HVe HV2;go_enter Tryz.func123, Tryz.ntmps123;go_wp2_with (first | (refine xqn (by rfl) _ _ (by rfl) _ (by rfl) _ (by assumption) ?_) | (refine xqi (by rfl) _ _ _ (by rfl) _ (by rfl) _ (by rfl) _ _ HZ HU ?_));refine bodyPost_ret (results_cell_row rfl _ _ _ 51 V (0, 0) _ rfl HR.out Tryz.underlying51 rfl (by first | exact HU.out.1.1 | skip)) rfl ?_;exact ⟨rfl, HE.out⟩
     · have e3 : (k == 3) = false := by rw [beq_eq_false_iff_ne]; exact h3
       by_cases h4 : k = 4
       · subst h4;have HVe : Hid (V = ndC 4 a b 0 ⟨#[]⟩ ⟨#[]⟩ p) := by show _ = _; rw [← HV2.out]; unfold ownN; dsimp only; rw [if_neg (by decide), if_neg (by decide), if_pos (by decide)]; rfl
         have HB := hid (show ∀ W, (Instr.build 51 ([(0, .int .i64 4), (1, .int .i64 a), (2, .int .i64 b), (6, .int .i64 p)] : List (Nat × Value)).toArray).run Tryz.prog W = .ok (.agg V) W by intro W; rw [HVe.out]; kernel_rfl);clear HVe HV2;go_enter Tryz.func123, Tryz.ntmps123;go_wp2_with (first | (refine xqn (by rfl) _ _ (by rfl) _ (by rfl) _ (by assumption) ?_) | (refine xqi (by rfl) _ _ _ (by rfl) _ (by rfl) _ (by rfl) _ _ HZ HU ?_));refine bodyPost_ret (results_cell_row rfl _ _ _ 51 V (0, 0) _ rfl HR.out Tryz.underlying51 rfl (by first | exact HU.out.1.1 | skip)) rfl ?_;exact ⟨rfl, HE.out⟩
       · have e4 : (k == 4) = false := by rw [beq_eq_false_iff_ne]; exact h4
         by_cases h5 : k = 5
         · subst h5;have HVe : Hid (V = ndC 5 a b 0 ⟨#[]⟩ ⟨#[]⟩ p) := by show _ = _; rw [← HV2.out]; unfold ownN; dsimp only; rw [if_neg (by decide), if_neg (by decide), if_pos (by decide)]; rfl
           have HB := hid (show ∀ W, (Instr.build 51 ([(0, .int .i64 5), (1, .int .i64 a), (2, .int .i64 b), (6, .int .i64 p)] : List (Nat × Value)).toArray).run Tryz.prog W = .ok (.agg V) W by intro W; rw [HVe.out]; kernel_rfl);clear HVe HV2;go_enter Tryz.func123, Tryz.ntmps123;go_wp2_with (first | (refine xqn (by rfl) _ _ (by rfl) _ (by rfl) _ (by assumption) ?_) | (refine xqi (by rfl) _ _ _ (by rfl) _ (by rfl) _ (by rfl) _ _ HZ HU ?_));refine bodyPost_ret (results_cell_row rfl _ _ _ 51 V (0, 0) _ rfl HR.out Tryz.underlying51 rfl (by first | exact HU.out.1.1 | skip)) rfl ?_;exact ⟨rfl, HE.out⟩
         · have e5 : (k == 5) = false := by rw [beq_eq_false_iff_ne]; exact h5
           by_cases h6 : k = 6
           · subst h6;have HVe : Hid (V = ndC 6 a b 0 ⟨#[]⟩ ⟨#[]⟩ p) := by show _ = _; rw [← HV2.out]; unfold ownN; dsimp only; rw [if_neg (by decide), if_neg (by decide), if_pos (by decide)]; rfl
             have HB := hid (show ∀ W, (Instr.build 51 ([(0, .int .i64 6), (1, .int .i64 a), (2, .int .i64 b), (6, .int .i64 p)] : List (Nat × Value)).toArray).run Tryz.prog W = .ok (.agg V) W by intro W; rw [HVe.out]; kernel_rfl);clear HVe HV2;go_enter Tryz.func123, Tryz.ntmps123;go_wp2_with (first | (refine xqn (by rfl) _ _ (by rfl) _ (by rfl) _ (by assumption) ?_) | (refine xqi (by rfl) _ _ _ (by rfl) _ (by rfl) _ (by rfl) _ _ HZ HU ?_));refine bodyPost_ret (results_cell_row rfl _ _ _ 51 V (0, 0) _ rfl HR.out Tryz.underlying51 rfl (by first | exact HU.out.1.1 | skip)) rfl ?_;exact ⟨rfl, HE.out⟩
           · have e6 : (k == 6) = false := by rw [beq_eq_false_iff_ne]; exact h6
             by_cases h7 : k = 7
             · subst h7;have HVe : Hid (V = ndC 7 a 0 0 ⟨#[]⟩ ⟨#[]⟩ p) := by show _ = _; rw [← HV2.out]; unfold ownN; dsimp only; rw [if_neg (by decide), if_neg (by decide), if_neg (by decide), if_pos rfl]; rfl
               have HB := hid (show ∀ W, (Instr.build 51 ([(0, .int .i64 7), (1, .int .i64 a), (6, .int .i64 p)] : List (Nat × Value)).toArray).run Tryz.prog W = .ok (.agg V) W by intro W; rw [HVe.out]; kernel_rfl);clear HVe HV2;go_enter Tryz.func123, Tryz.ntmps123;go_wp2_with (first | (refine xqn (by rfl) _ _ (by rfl) _ (by rfl) _ (by assumption) ?_) | (refine xqi (by rfl) _ _ _ (by rfl) _ (by rfl) _ (by rfl) _ _ HZ HU ?_));refine bodyPost_ret (results_cell_row rfl _ _ _ 51 V (0, 0) _ rfl HR.out Tryz.underlying51 rfl (by first | exact HU.out.1.1 | skip)) rfl ?_;exact ⟨rfl, HE.out⟩
             · have e7 : (k == 7) = false := by rw [beq_eq_false_iff_ne]; exact h7
               by_cases h8 : k = 8
               · subst h8;have HVe : Hid (V = ndC 8 a 0 n ⟨#[]⟩ ⟨#[]⟩ p) := by show _ = _; rw [← HV2.out]; unfold ownN; dsimp only; rw [if_neg (by decide), if_neg (by decide), if_neg (by decide), if_neg (by decide), if_pos rfl]; rfl
                 have HB := hid (show ∀ W, (Instr.build 51 ([(0, .int .i64 8), (1, .int .i64 a), (3, .int .i64 n), (6, .int .i64 p)] : List (Nat × Value)).toArray).run Tryz.prog W = .ok (.agg V) W by intro W; rw [HVe.out]; kernel_rfl);clear HVe HV2;go_enter Tryz.func123, Tryz.ntmps123;go_wp2_with (first | (refine xqn (by rfl) _ _ (by rfl) _ (by rfl) _ (by assumption) ?_) | (refine xqi (by rfl) _ _ _ (by rfl) _ (by rfl) _ (by rfl) _ _ HZ HU ?_));refine bodyPost_ret (results_cell_row rfl _ _ _ 51 V (0, 0) _ rfl HR.out Tryz.underlying51 rfl (by first | exact HU.out.1.1 | skip)) rfl ?_;exact ⟨rfl, HE.out⟩
               · have e8 : (k == 8) = false := by rw [beq_eq_false_iff_ne]; exact h8
                 have HVe : Hid (V = zN) := by show _ = _; rw [← HV2.out]; unfold ownN; dsimp only; rw [if_neg h1, if_neg h2, if_neg (two_no h3 h4 h5 h6), if_neg h7, if_neg h8]; rfl
                 have HB := hid (show ∀ W, (Instr.build 51 ([] : List (Nat × Value)).toArray).run Tryz.prog W = .ok (.agg V) W by intro W; rw [HVe.out]; kernel_rfl);clear HVe HV2;go_enter Tryz.func123, Tryz.ntmps123;go_wp2_with (first | (refine xqn (by rfl) _ _ (by rfl) _ (by rfl) _ (by assumption) ?_) | (refine xqi (by rfl) _ _ _ (by rfl) _ (by rfl) _ (by rfl) _ _ HZ HU ?_));refine bodyPost_ret (results_cell_row rfl _ _ _ 51 V (0, 0) _ rfl HR.out Tryz.underlying51 rfl (by first | exact HU.out.1.1 | skip)) rfl ?_;exact ⟨rfl, HE.out⟩
def NuR (w : World) (g : Nat) (T : TypeId) (o : List Nat) (k : Nat) : Prop := RowA w g T (ints .i64 (o.map Int.ofNat ++ List.replicate k 0))
theorem NuR.cell {w : World} {g : Nat} {T : TypeId} {o : List Nat} {k : Nat} (h : NuR w g T o k) {j : Nat} (hj : j < o.length) : w.cell? ⟨g, j, none⟩ = some (.int .i64 ((o.getD j 0 : Nat) : Int)) := by
 have h1 := RowA.int (i := j) h (by rw [List.length_append, List.length_map]; omega);rw [h1]
 congr 2
 rw [List.getD_eq_getElem?_getD, List.getElem?_append_left (by rw [List.length_map]; exact hj), List.getElem?_map, List.getD_eq_getElem?_getD, List.getElem?_eq_getElem hj];rfl
theorem NuR.below {w w' : World} {g : Nat} {T : TypeId} {o : List Nat} {k : Nat} (h : NuR w g T o k) (hb : Below w.heap.size w w') : NuR w' g T o k := RowA.below h hb
theorem NuR.lt {w : World} {g : Nat} {T : TypeId} {o : List Nat} {k : Nat} (h : NuR w g T o k) : g < w.heap.size := RowA.lt h
theorem NuR.room {w : World} {g : Nat} {T : TypeId} {o : List Nat} {k : Nat} (h : NuR w g T o (k + 1)) : ∃ v, w.cell? ⟨g, o.length, none⟩ = some (.int .i64 v) ∧ w.frozen? ⟨g, o.length, none⟩ = false :=
 ⟨_, RowA.int (i := o.length) h (by rw [List.length_append, List.length_map, List.length_replicate]; omega), RowA.free h _⟩
theorem NuR.store {w : World} {g : Nat} {T : TypeId} {o : List Nat} {k : Nat} (h : NuR w g T o (k + 1)) (s : Nat) : NuR (w.setCell ⟨g, o.length, none⟩ (.int .i64 (s : Int))) g T (o ++ [s]) k := by
 have h1 := RowA.setInt h o.length (s : Int);unfold NuR;rw [List.map_append, List.append_assoc];rw [List.set_append_right (h := by rw [List.length_map]; exact Nat.le_refl _), List.length_map, Nat.sub_self, List.replicate_succ, List.set_cons_zero] at h1;exact h1
set_option maxRecDepth 100000 in
theorem tEnd_no {o : List Nat} {c : Int} {m : Nat} (hm : m ≤ o.length) (hl : o.length ≤ 1000000) {g : Nat} {T : TypeId} {k cap : Nat} {w : World} (hr : NuR w g T o k) (hE : endN o c m = none) :
 Calls Tryz.prog 122 #[.int .i64 c, .int .i64 (m : Int), .slice (some ⟨g, 0, none⟩) o.length cap] w fun e w' => e = .returned (.tuple #[.int .i64 0, .bool false]) ∧ w = w' := by
 have hc : ¬ (0 ≤ c ∧ c + 1 = (m : Int)) := fun h => by unfold endN at hE; rw [if_pos h] at hE; cases hE
 clear hE hr;by_cases h0 : c < 0
 · clear hc;go_enter Tryz.func122, Tryz.ntmps122;go_wp2
   go_ret2
   exact ⟨rfl, rfl⟩
 · have e1 : (c == (m : Int) - 1) = false := by rw [beq_eq_false_iff_ne]; omega
   have b1 : -1 ≤ (m : Int) - 1 := by omega
   have b2 : (m : Int) - 1 ≤ 1000000 := by omega
   clear hc;go_enter Tryz.func122, Tryz.ntmps122;go_wp2
   go_ret2
   exact ⟨rfl, rfl⟩
set_option maxRecDepth 100000 in
theorem yz1 {o : List Nat} {c : Int} {m : Nat} (hm : m ≤ o.length) (hl : o.length ≤ 1000000) {g : Nat} {T : TypeId} {k cap : Nat} {w : World} (hr : NuR w g T o k) {s : Nat} (hE : endN o c m = some s) :
 Calls Tryz.prog 122 #[.int .i64 c, .int .i64 (m : Int), .slice (some ⟨g, 0, none⟩) o.length cap] w fun e w' => e = .returned (.tuple #[.int .i64 (s : Int), .bool true]) ∧ w = w' := by
 obtain ⟨j, rfl, rfl, rfl⟩ := xzd hE;have hj : j < o.length := by omega
 have hcell := hr.cell hj;obtain ⟨s, hs⟩ : ∃ s, o.getD j 0 = s := ⟨_, rfl⟩;rw [hs] at hcell ⊢;clear hE hs;have e1 : ((j : Int) == (j : Int)) = true := beq_self_eq_true _;generalize o.length = n at *;clear hr;go_enter Tryz.func122, Tryz.ntmps122;go_wp2
 go_ret2
 exact ⟨rfl, rfl⟩
set_option maxRecDepth 100000 in
theorem tStart_no {o : List Nat} (hlow : Low o) (hl : o.length ≤ 1000000) {k a b n : Int} {t u : ByteArray} {p : Int} {g : Nat} {T : TypeId} {r cap : Nat} {w : World} (hr : NuR w g T o r) (hE : xwj o ⟨k, a, b, n, t, u, p⟩ = none) :
 Calls Tryz.prog 94 #[.agg (ndC k a b n t u p), .slice (some ⟨g, 0, none⟩) o.length cap] w fun e w' => e = .returned (.tuple #[.int .i64 0, .bool false]) ∧ Below w.heap.size w w' := by
 have bw := xqc w (.cells (ndC k a b n t u p) 51);have HR := hid (hr.below bw);have hx := xqd w 51 (ndC k a b n t u p);have HB := hid bw;unfold xwj at hE;dsimp only at hE;clear bw;have ka := hx.cell (k := 0) (v := .int .i64 k) rfl;have kb := hx.cell (k := 1) (v := .int .i64 a) rfl;have kc := hx.cell (k := 2) (v := .int .i64 b) rfl;clear hx;by_cases h1 : k = 1
 · subst h1;rw [if_pos (by decide)] at hE;cases hE
 · have e1 : (k == 1) = false := by rw [beq_eq_false_iff_ne]; exact h1
   by_cases h2 : k = 2
   · subst h2;rw [if_pos (by decide)] at hE;cases hE
   · have e2 : (k == 2) = false := by rw [beq_eq_false_iff_ne]; exact h2
     rw [if_neg (by omega)] at hE;by_cases h7 : k = 7
     · subst h7;rw [if_pos (by decide)] at hE;have HEa := hid hE;clear hE hr;go_enter Tryz.func94, Tryz.ntmps94;go_wp2_with fail
       refine (tEnd_no (Nat.le_refl _) hl HR.out HEa.out).mono ?_;rintro e wx ⟨rfl, rfl⟩;go_wp2
       go_ret2
       exact ⟨rfl, HB.out⟩
     · have e7 : (k == 7) = false := by rw [beq_eq_false_iff_ne]; exact h7
       by_cases h8 : k = 8
       · subst h8;rw [if_pos (by decide)] at hE;have HEa := hid hE;clear hE hr;go_enter Tryz.func94, Tryz.ntmps94;go_wp2_with fail
         refine (tEnd_no (Nat.le_refl _) hl HR.out HEa.out).mono ?_;rintro e wx ⟨rfl, rfl⟩;go_wp2
         go_ret2
         exact ⟨rfl, HB.out⟩
       · have e8 : (k == 8) = false := by rw [beq_eq_false_iff_ne]; exact h8
         rw [if_neg (by omega)] at hE;cases hB : endN o b o.length with
         | none =>
          have HEb := hid hB;clear hE hB hr;go_enter Tryz.func94, Tryz.ntmps94;go_wp2_with fail
          refine (tEnd_no (Nat.le_refl _) hl HR.out HEb.out).mono ?_;rintro e wx ⟨rfl, rfl⟩;go_wp2
          go_ret2
          exact ⟨rfl, HB.out⟩
         | some s2 =>
          rw [hB] at hE;dsimp only at hE;have HEb := hid hB;have HEa := hid hE;have hs2 : s2 ≤ o.length := by obtain ⟨j, _, h1, rfl⟩ := xzd hB; have := hlow.le j; omega
          clear hE hB hr;go_enter Tryz.func94, Tryz.ntmps94;go_wp2_with fail
          refine (yz1 (Nat.le_refl _) hl HR.out HEb.out).mono ?_;rintro e wx ⟨rfl, rfl⟩;go_wp2_with fail
          refine (tEnd_no hs2 hl HR.out HEa.out).mono ?_;rintro e wx ⟨rfl, rfl⟩;go_wp2
          go_ret2
          exact ⟨rfl, HB.out⟩
set_option maxRecDepth 100000 in
theorem tStart_yes {o : List Nat} (hlow : Low o) (hl : o.length ≤ 1000000) {k a b n : Int} {t u : ByteArray} {p : Int} {g : Nat} {T : TypeId} {r cap : Nat} {w : World} (hr : NuR w g T o r) {s : Nat} (hE : xwj o ⟨k, a, b, n, t, u, p⟩ = some s) :
 Calls Tryz.prog 94 #[.agg (ndC k a b n t u p), .slice (some ⟨g, 0, none⟩) o.length cap] w fun e w' => e = .returned (.tuple #[.int .i64 (s : Int), .bool true]) ∧ Below w.heap.size w w' := by
 have bw := xqc w (.cells (ndC k a b n t u p) 51);have HR := hid (hr.below bw);have hx := xqd w 51 (ndC k a b n t u p);have HB := hid bw;unfold xwj at hE;dsimp only at hE;clear bw;have ka := hx.cell (k := 0) (v := .int .i64 k) rfl;have kb := hx.cell (k := 1) (v := .int .i64 a) rfl;have kc := hx.cell (k := 2) (v := .int .i64 b) rfl;clear hx;by_cases h1 : k = 1
 · subst h1;rw [if_pos (by decide)] at hE;injection hE with hE
   subst hE;clear hr;go_enter Tryz.func94, Tryz.ntmps94;go_wp2
   go_ret2
   exact ⟨rfl, HB.out⟩
 · have e1 : (k == 1) = false := by rw [beq_eq_false_iff_ne]; exact h1
   by_cases h2 : k = 2
   · subst h2;rw [if_pos (by decide)] at hE;injection hE with hE
     subst hE;clear hr;go_enter Tryz.func94, Tryz.ntmps94;go_wp2
     go_ret2
     exact ⟨rfl, HB.out⟩
   · have e2 : (k == 2) = false := by rw [beq_eq_false_iff_ne]; exact h2
     rw [if_neg (by omega)] at hE;by_cases h7 : k = 7
     · subst h7;rw [if_pos (by decide)] at hE;have HEa := hid hE;clear hE hr;go_enter Tryz.func94, Tryz.ntmps94;go_wp2_with fail
       refine (yz1 (Nat.le_refl _) hl HR.out HEa.out).mono ?_;rintro e wx ⟨rfl, rfl⟩;go_wp2
       go_ret2
       exact ⟨rfl, HB.out⟩
     · have e7 : (k == 7) = false := by rw [beq_eq_false_iff_ne]; exact h7
       by_cases h8 : k = 8
       · subst h8;rw [if_pos (by decide)] at hE;have HEa := hid hE;clear hE hr;go_enter Tryz.func94, Tryz.ntmps94;go_wp2_with fail
         refine (yz1 (Nat.le_refl _) hl HR.out HEa.out).mono ?_;rintro e wx ⟨rfl, rfl⟩;go_wp2
         go_ret2
         exact ⟨rfl, HB.out⟩
       · have e8 : (k == 8) = false := by rw [beq_eq_false_iff_ne]; exact h8
         rw [if_neg (by omega)] at hE;cases hB : endN o b o.length with
         | none => rw [hB] at hE; cases hE
         | some s2 =>
          rw [hB] at hE;dsimp only at hE;have HEb := hid hB;have HEa := hid hE;have hs2 : s2 ≤ o.length := by obtain ⟨j, _, h1, rfl⟩ := xzd hB; have := hlow.le j; omega
          clear hE hB hr;go_enter Tryz.func94, Tryz.ntmps94;go_wp2_with fail
          refine (yz1 (Nat.le_refl _) hl HR.out HEb.out).mono ?_;rintro e wx ⟨rfl, rfl⟩;go_wp2_with fail
          refine (yz1 hs2 hl HR.out HEa.out).mono ?_;rintro e wx ⟨rfl, rfl⟩;go_wp2
          go_ret2
          exact ⟨rfl, HB.out⟩
set_option maxRecDepth 100000 in
theorem tAlike_c {k a b n : Int} {t u : ByteArray} {p k' a' b' n' : Int} {t' u' : ByteArray} {p' : Int} {v : Bool} (hv : ywv ⟨k, a, b, n, t, u, p⟩ ⟨k', a', b', n', t', u', p'⟩ = v) (w : World) :
 Calls Tryz.prog 136 #[.agg (ndC k a b n t u p), .agg (ndC k' a' b' n' t' u' p')] w fun e w' => e = .returned (.bool v) ∧ Below w.heap.size w w' := by
 have hq : ∀ W, (Op.equalIn 10000 51 (.agg (ndC k a b n t u p')) (.agg (ndC k' a' b' n' t' u' p'))).run Tryz.prog W = .ok v W := fun W => yvk (x := ⟨k, a, b, n, t, u, p'⟩) (y := ⟨k', a', b', n', t', u', p'⟩) (by unfold eqN; rw [decide_eq_true rfl, Bool.and_true]; exact hv) W
 have b1 := xqc w (.cells (ndC k a b n t u p) 51);have b2 := xqc (w.alloc (.cells (ndC k a b n t u p) 51)) (.cells (ndC k' a' b' n' t' u' p') 51);have h_ra := (xqd w 51 (ndC k a b n t u p)).below b2;have h_rb := xqd (w.alloc (.cells (ndC k a b n t u p) 51)) 51 (ndC k' a' b' n' t' u' p');simp only [World.size_alloc] at h_rb;have k6 := h_rb.cell (k := 6) (v := .int .i64 p') rfl;have c6 := h_ra.cell (k := 6) (v := .int .i64 p) rfl;have f6 := h_ra.free 6;have HI_a : Hid (InV (((w.alloc (.cells (ndC k a b n t u p) 51)).alloc (.cells (ndC k' a' b' n' t' u' p') 51)).setCell ⟨w.heap.size, 6, none⟩ (.int .i64 p')) w.heap.size 0 (ndC k a b n t u p')) := (h_ra.set 6 (.int .i64 p')).inV;have HI_b : Hid (InV (((w.alloc (.cells (ndC k a b n t u p) 51)).alloc (.cells (ndC k' a' b' n' t' u' p') 51)).setCell ⟨w.heap.size, 6, none⟩ (.int .i64 p')) (w.heap.size + 1) 0 (ndC k' a' b' n' t' u' p')) := (h_rb.far (by omega) 6 (.int .i64 p')).inV;have HM_a := hid (xjx k a b n t u p');have HM_b := hid (xjx k' a' b' n' t' u' p');clear b1 b2 h_ra h_rb hv;go_enter Tryz.func136, Tryz.ntmps136;go_wp2_with (refine xqf (by rfl) _ _ (by rfl) _ _ (by rfl) _ (by assumption) (by assumption) ?_);go_ret
 exact ⟨rfl, xqa (xqc _ _) (xqc _ _)⟩
theorem appL_nil (r : LR) : appL [] r = r := by cases r <;> rfl
theorem appL_cons (us : List Tk) (t : Tk) (r : LR) : appL us (consL t r) = appL (us ++ [t]) r := by
 cases r with
 | bad p => rfl
 | ok l => show LR.ok _ = LR.ok _; simp
def LexI (l : List Nat) (us : List Tk) (p : Nat) : Prop := p ≤ l.length ∧ us.length ≤ p ∧ Stop l p ∧ lexT l = appL us (yv5 (l.length + 1) p (l.drop p))
theorem LexI.start {l : List Nat} {n : Nat} (h : Gap l n) (hs : Stop l n) : LexI l [] n := by
 refine ⟨h.1, Nat.zero_le _, hs, ?_⟩;rw [appL_nil];have := h.2 (l.length + 1) (l.length + 1) 0 (by omega) (by omega);rw [Nat.zero_add] at this;exact this
theorem LexI.done {l : List Nat} {us : List Tk} {p : Nat} (h : LexI l us p) (hp : l.length ≤ p) : lexT l = .ok us := by
 rw [h.2.2.2, List.drop_eq_nil_of_le hp];show LR.ok (us ++ []) = _;rw [List.append_nil]
theorem LexI.bad {l : List Nat} {us : List Tk} {p c : Nat} {r : List Nat} (h : LexI l us p) (hd : l.drop p = c :: r) (hb : xwq c r = .bad) : lexT l = .bad p := by
 rw [h.2.2.2, hd];unfold yv5;rw [hb];rfl
theorem LexI.step {l : List Nat} {us : List Tk} {p c k n m : Nat} {r t : List Nat} (h : LexI l us p) (hd : l.drop p = c :: r) (ht : xwq c r = .tok k t n) (hg : Gap (l.drop (p + n)) m) (hst : Stop (l.drop (p + n)) m) : LexI l (us ++ [(k, t, p)]) (p + n + m) := by
 have hl := lexS_len.2 k t n ht;have hlen : l.length - p = r.length + 1 := by rw [← List.length_drop, hd, List.length_cons]
 have hg1 := hg.1;rw [List.length_drop] at hg1;refine ⟨by omega, ?_, ?_, ?_⟩
 · rw [List.length_append, List.length_singleton]; have := h.2.1; omega
 · intro c2 r2 e;exact hst c2 r2 (by rw [List.drop_drop]; exact e)
 · rw [h.2.2.2, hd];have e1 : yv5 (l.length + 1) p (c :: r) = consL (k, t, p) (yv5 l.length (p + n) ((c :: r).drop n)) := by
    conv => lhs; unfold yv5
    rw [ht]
   rw [e1, appL_cons, ← hd, List.drop_drop, hg.2 l.length (l.length + 1) (p + n) (by rw [List.length_drop]; omega) (by rw [List.length_drop]; omega), List.drop_drop]
theorem lexV_bad {l : List Nat} {p : Nat} (h : ¬ 4000 < l.length) (hb : lexT l = .bad p) : lexV l = ([], 11, (p : Int)) := by unfold lexV; rw [if_neg h, hb]
theorem lexV_ok {l : List Nat} {us : List Tk} (h : ¬ 4000 < l.length) (hb : lexT l = .ok us) : lexV l = (us, 0, 0) := by unfold lexV; rw [if_neg h, hb]
theorem ownR_far {w : World} {B sz n c q : Nat} {e : TypeId} {A : Option Addr} {xs : List Value} {V : Array Value} (h : OwnR w B e sz A n c xs) (hq : q < B) : OwnR (w.setRow q V) B e sz A n c xs := by
 refine ⟨h.1, ?_⟩;rcases h.2 with h1 | ⟨g, cap, cur, hv, hB, hg, r⟩
 · exact .inl h1
 · exact .inr ⟨g, cap, cur, hv, hB, (setRow_other w q g V (by omega)).trans hg, r⟩
set_option maxRecDepth 4000 in
theorem lkTokens_c (s : ByteArray) (hs : s.size ≤ 1000000000) (w : World) (T : XTab w) (ts : List Tk) (E P : Int) (hR : lexV (bytesOf s) = (ts, E, P)) :
 Calls Tryz.prog 72 #[.string s] w fun e w' => ∃ A n c, e = .returned (.tuple #[.slice A n c, .agg (xzw E P)]) ∧ TokR w' A n c ts ∧ Below w.heap.size w w' := by
 have hz := xqd w 29 (xzw 0 0);have HB := hid (xqc w (.cells (xzw 0 0) 29));have HT := hid T;have HL := hid (xqe s);have Hs1 : Hid ((w.alloc (.cells (xzw 0 0) 29)).heap.size = w.heap.size + 1) := by show _ = _; simp
 clear T;by_cases h4 : 4000 < s.size
 · unfold lexV at hR;rw [xqe, if_pos h4] at hR;obtain ⟨rfl, rfl, rfl⟩ : [] = ts ∧ (2 : Int) = E ∧ (0 : Int) = P := by simpa using hR
   clear hR;have HRf := hid (xqd w 29 (xzw 2 0));have HE := hid (xqc w (.cells (xzw 2 0) 29));clear hz;go_enter Tryz.func72, Tryz.ntmps72;go_wp2
   refine bodyPost_ret (xjf rfl _ _ _ 29 (xzw 2 0) (0, 0) _ (.slice none 0 0) rfl rfl HRf.out Tryz.underlying29 rfl sizeF) rfl ?_;exact ⟨none, 0, 0, rfl, TokR.nil _, HE.out⟩
 · have HR := hid hR;have h4l : Hid (¬ 4000 < (bytesOf s).length) := by show ¬ _; rw [xqe]; exact h4
   clear hR;go_enter Tryz.func72, Tryz.ntmps72;go_wp2_with fail
   generalize w.alloc (.cells (xzw 0 0) 29) = w1 at *;obtain ⟨q, eq⟩ : ∃ g, g = w.heap.size := ⟨_, rfl⟩;have hqB : Hid (w.heap.size ≤ q) := by show _ ≤ _; omega
   rw [← eq] at hz Hs1 ⊢;have HQ := hid eq;clear eq;refine (lkGap_c s hs w1 (HT.out.below HB.out).2).mono ?_;rintro e w2 ⟨n0, rfl, hg, hst, bn⟩;have HI0 := hid (LexI.start hg hst);have HB2 := hid (xqa HB.out bn);have HZ2 := hid (hz.below bn);have Hs2 : Hid (q + 1 ≤ w2.heap.size) := by show _ ≤ _; have := bn.size; have := Hs1.out; omega
   clear hg hst bn hz HB Hs1;go_wp2
   go_loopw [4, 5] (fun lv av wr => ∃ (A : Option Addr) (n c p : Nat) (us : List Tk), lv = .slice A n c ∧ av = .int .i64 (p : Int) ∧ Hid (n = us.length) ∧ p ≤ s.size ∧ Hid (n ≤ c ∧ OwnR wr (q + 1) 109 3 A n c (xv7 us)) ∧ Hid (LexI (bytesOf s) us p) ∧ Hid (RowA wr q 29 (xzw 0 0)) ∧ Hid (q + 1 ≤ wr.heap.size) ∧ Hid (Below w.heap.size w wr)) (fun _ av _ => s.size - (intOf av).toNat)
   case atStart => exact ⟨none, 0, 0, n0, [], rfl, rfl, rfl, (by have := HI0.out.1; rw [HL.out] at this; exact this), ⟨Nat.le_refl _, OwnR.nil _ _ _ _⟩, HI0, HZ2, Hs2, HB2⟩
   case round =>
    clear HI0 HB2 HZ2 Hs2;obtain ⟨A, n, c, p, us, rfl, rfl, hn, hp, HO, HI, HZw, Hsz, HB⟩ := hrel;by_cases hlt : p < s.size
    · have hd := xw2 (l := bytesOf s) (i := p) (by rw [HL.out]; exact hlt);generalize lim (bytesOf s) p = c0 at hd;generalize hr0 : (bytesOf s).drop (p + 1) = r0 at hd;have hst0 := HI.out.2.2.1 c0 r0 hd;obtain ⟨X, hX⟩ : ∃ X, s.extract p s.size = X := ⟨_, rfl⟩;have HX : Hid (bytesOf X = c0 :: r0) := by show _ = _; rw [← hX, yq6]; exact hd
      have hXs : X.size = s.size - p := by rw [← hX]; exact tail_size s (by omega)
      have HD := hid hd;have HS0 := hid hst0;clear hd hst0 hr0;go_wp2_with fail
      refine (lkFirst_c X (by omega) c0 r0 HX.out HS0 wr (HT.out.below HB.out)).mono ?_;rintro e w3 ⟨k, m, rfl, hF, bn⟩;have HF := hid hF;have HB3 := hid (xqa HB.out bn);have HZ3 := hid (HZw.out.below bn);have HO3 : Hid (n ≤ c ∧ OwnR w3 (q + 1) 109 3 A n c (xv7 us)) := ⟨HO.out.1, HO.out.2.below bn⟩;have Hs3 : Hid (q + 1 ≤ w3.heap.size) := by show _ ≤ _; have := bn.size; have := Hsz.out; omega
      clear hF bn HB HZw HO Hsz;by_cases m0 : m = 0
      · subst m0;have hb : xwq c0 r0 = .bad := by
         rcases HF.out with ⟨_, h⟩ | ⟨t, h⟩
         · exact h
         · exact absurd (lexS_len.2 _ _ _ h).1 (by decide)
        have hV := lexV_bad h4l.out (HI.out.bad HD.out hb);rw [HR.out] at hV;obtain ⟨rfl, rfl, rfl⟩ : ts = [] ∧ E = 11 ∧ P = (p : Int) := by simpa using hV
        clear hV hb HR HF;have HZ := hid (HZ3.out);have HU := hid (fitsF 11 (p : Int));have HRf := hid (RowA.fill HZ.out (V' := xzw 11 (p : Int)));have HE := hid (xqv (HB3.out) hqB.out (xzw 11 (p : Int)));clear HZ3 HO3;go_wp2_with (refine xqi (by rfl) _ _ _ (by rfl) _ (by rfl) _ (by rfl) _ _ (by assumption) (by assumption) ?_);refine bodyPost_ret (xjf rfl _ _ _ 29 (xzw 11 (p : Int)) (0, 0) _ (.slice none 0 0) rfl rfl HRf.out Tryz.underlying29 rfl sizeF) rfl ?_;exact ⟨none, 0, 0, rfl, TokR.nil _, HE.out⟩
      · obtain ⟨t, ht⟩ : ∃ t, xwq c0 r0 = .tok k t m := by
         rcases HF.out with ⟨h, _⟩ | ⟨t, h⟩
         · exact absurd h m0
         · exact ⟨t, h⟩
        have hml := lexS_len.2 _ _ _ ht;have hr0 : r0.length + 1 = s.size - p := by have := congrArg List.length HD.out; rw [List.length_drop, HL.out, List.length_cons] at this; omega
        have e0 : ((m : Int) == 0) = false := by rw [beq_eq_false_iff_ne]; omega
        have hpm : p + m ≤ s.size := by omega
        have hm1 := hml.1;obtain ⟨Y, hY⟩ : ∃ Y, s.extract p (p + m) = Y := ⟨_, rfl⟩;have HY : Hid (rawT (k, t, p) = bytesOf Y) := by show _ = _; rw [← hY, xze, HD.out, Nat.add_sub_cancel_left]; exact (raw_at ht).2.symm
        have hYs : Y.size ≤ s.size := by have h := HY.out; have h2 := congrArg List.length h; rw [(raw_at ht).1, xqe] at h2; omega
        obtain ⟨U, hU⟩ : ∃ U, strOf t = U := ⟨_, rfl⟩;have HTk := hid ht;have HU := hid hU;have hn4 : n ≤ 4000 := by have := HI.out.2.1; have := hn.out; omega
        clear ht hml hr0 HF m0 hU;go_wp2_with fail
        refine (lkText_c Y (by omega) k t p HY.out w3).mono ?_;rintro e w4 ⟨rfl, bn⟩;rw [HU.out];have bl := xqc w4 (.cells (tkC k U p) 109);have HB4 := hid (xqa HB3.out (xqa bn bl));have HZ4 := hid ((HZ3.out.below bn).below bl);have HO4 := hid ((HO3.out.2.below bn).below bl);have HL4 : Hid (RowA (w4.alloc (.cells (tkC k U p) 109)) w4.heap.size 109 (tkC k U p) ∧ (tkC k U p).size = 3 ∧ ∀ v ∈ tkC k U p, v.oneCell' = true) := ⟨xqd _ _ _, rfl, by simp [Value.oneCell']⟩;have Hs4 : Hid (q + 1 ≤ (w4.alloc (.cells (tkC k U p) 109)).heap.size) := by show _ ≤ _; have := bn.size; have := Hs3.out; simp; omega
        have HE4 : Hid (n ≤ 1000000 ∧ q + 1 ≤ (w4.alloc (.cells (tkC k U p) 109)).heap.size) := ⟨by omega, Hs4.out⟩;clear bn bl HB3 HZ3 HO3 Hs3;go_wp2_with (at_builtin; refine xvr rfl _ _ 69 rfl (q + 1) 109 3 toks_elem A n c _ rfl HO4 w4.heap.size rfl 109 (tkC k U p) HL4 HE4 ?_);intro A2 c2 w5 hO5 hg5;have HB5 := hid (xq6 HB4.out (by have := hqB.out; omega) HE4.out.2 HO4.out hg5.out);have HZ5 := hid (HZ4.out.grown hg5.out (HO4.out.apart HZ4.out (Nat.lt_succ_self q)));have HO5 : Hid (n + 1 ≤ c2 ∧ OwnR w5 (q + 1) 109 3 A2 (n + 1) c2 (xv7 (us ++ [(k, t, p)]))) := by
         have h5 := hO5.out;obtain ⟨g, _, _, _, hc, _⟩ := h5.cells (by omega);refine ⟨hc, ?_⟩;rw [tkCells_snoc]; unfold tkV; rw [HU.out]; exact h5
        have Hs5 : Hid (q + 1 ≤ w5.heap.size) := Nat.le_trans Hs4.out hg5.out.size;clear hO5 hg5 HO4 HL4 HE4 HB4 HZ4 Hs4;obtain ⟨X2, hX2⟩ : ∃ X, s.extract (p + m) s.size = X := ⟨_, rfl⟩;have HX2 : Hid (bytesOf X2 = (bytesOf s).drop (p + m)) := by show _ = _; rw [← hX2]; exact yq6 s _
        have hX2s : X2.size = s.size - (p + m) := by rw [← hX2]; exact tail_size s hpm
        go_wp2_with fail
        refine (lkGap_c X2 (by omega) w5 (HT.out.below HB5.out).2).mono ?_;rintro e w6 ⟨m2, rfl, hg, hst, bn⟩;rw [HX2.out] at hg hst;have HI6 := hid (HI.out.step HD.out HTk.out hg hst);have hm2 : p + m + m2 ≤ s.size := by have := HI6.out.1; rw [HL.out] at this; exact this
        have HB6 := hid (xqa HB5.out bn);have HZ6 := hid (HZ5.out.below bn);have HO6 : Hid (n + 1 ≤ c2 ∧ OwnR w6 (q + 1) 109 3 A2 (n + 1) c2 (xv7 (us ++ [(k, t, p)]))) := ⟨HO5.out.1, HO5.out.2.below bn⟩;have Hs6 : Hid (q + 1 ≤ w6.heap.size) := by show _ ≤ _; have := bn.size; have := Hs5.out; omega
        clear hg hst bn HB5 HZ5 HO5 Hs5 HX2 hX2s hXs hYs;go_wp2
        exact ⟨⟨A2, n + 1, c2, p + m + m2, us ++ [(k, t, p)], rfl, by first | rfl | (go_num), (by show _ = _; rw [List.length_append, ← hn.out]; rfl), hm2, HO6, HI6, HZ6, Hs6, HB6⟩, by simp [intOf]; omega⟩
    · have hV := lexV_ok h4l.out (HI.out.done (by rw [HL.out]; omega));rw [HR.out] at hV;obtain ⟨rfl, rfl, rfl⟩ : ts = us ∧ E = 0 ∧ P = 0 := by simpa using hV
      clear hV HR HI;have HZ := hid (HZw.out);have HU := hid (fitsF 0 0);have HRf := hid (RowA.fill HZ.out (V' := xzw 0 0));have HE := hid (xqv (HB.out) hqB.out (xzw 0 0));have HOf : Hid (OwnR (wr.setRow q (xzw 0 0)) (q + 1) 109 3 A n c (xv7 ts)) := ownR_far HO.out.2 (Nat.lt_succ_self q);have Hnc := hid HO.out.1;clear HZw HO;go_wp2_with (refine xqi (by rfl) _ _ _ (by rfl) _ (by rfl) _ (by rfl) _ _ (by assumption) (by assumption) ?_);refine bodyPost_ret (xjf rfl _ _ _ 29 (xzw 0 0) (0, 0) _ (.slice A n c) rfl rfl HRf.out Tryz.underlying29 rfl sizeF) rfl ?_;exact ⟨A, n, c, rfl, ⟨hn.out, Hnc.out, _, HOf.out⟩, HE.out⟩
abbrev brk : ByteArray := ⟨#[93, 10]⟩
def okB (c : Nat) : Bool := !(c == 93 || c == 10)
theorem dec_high (s : ByteArray) (i : Nat) (hi : i < s.size) (hx : 128 ≤ (s.get! i).toNat) : 128 ≤ (Utf8.decode s i).1 ∧ ∀ j, j < (Utf8.decode s i).2 → i + j < s.size ∧ 128 ≤ (s.get! (i + j)).toNat := by
 rw [Lib.decode_at];generalize hb0 : (s.get! i).toNat = b0 at hx;generalize hb1 : (s.get! (i + 1)).toNat = b1;generalize hb2 : (s.get! (i + 2)).toNat = b2;generalize hb3 : (s.get! (i + 3)).toNat = b3;have key : ∀ K, K ≤ 4 → (1 < K → i + 1 < s.size ∧ 128 ≤ b1) → (2 < K → i + 2 < s.size ∧ 128 ≤ b2) → (3 < K → i + 3 < s.size ∧ 128 ≤ b3) → ∀ j, j < K → i + j < s.size ∧ 128 ≤ (s.get! (i + j)).toNat := by
  intro K hK h1 h2 h3 j hj
  match j, hj with
  | 0, _ => exact ⟨hi, by rw [Nat.add_zero, hb0]; exact hx⟩
  | 1, hj => have := h1 (by omega); exact ⟨this.1, by rw [hb1]; exact this.2⟩
  | 2, hj => have := h2 (by omega); exact ⟨this.1, by rw [hb2]; exact this.2⟩
  | 3, hj => have := h3 (by omega); exact ⟨this.1, by rw [hb3]; exact this.2⟩
  | j + 4, hj => omega
 unfold Lib.decodeN;rw [if_neg (by omega)]
 repeat' split
 all_goals (refine ⟨by dsimp only; omega, ?_⟩; dsimp only; refine key _ (by omega) (fun h => ?_) (fun h => ?_) (fun h => ?_) <;> first | (exfalso; omega) | omega)
theorem sValid_c (R : Nat) (hR : R ≤ 1114111) (v : Bool) (hv : (decide (R < 55296) || decide (57343 < R)) = v) (w : World) :
 Calls Tryz.prog 198 #[.int .i32 (R : Int)] w fun e w' => e = .returned (.bool v) ∧ w = w' := by
 refine (Any.utf8_ValidRune { Tryz.lays153 with } (R : Int) w).mono ?_;rintro e w' ⟨rfl, rfl⟩;refine ⟨?_, rfl⟩;rw [← hv];refine congrArg _ (congrArg _ ?_);unfold Lib.validRune;by_cases h1 : R < 55296
 · simp [h1]; omega
 · by_cases h2 : 57343 < R
   · simp [h1, h2]; omega
   · simp [h1, h2]; omega
theorem enc2 {R : Nat} (h1 : 128 ≤ R) (h2 : R < 2048) : Utf8.encode (R : Int) = ⟨#[UInt8.ofNat (192 + R / 64), UInt8.ofNat (128 + R % 64)]⟩ := by
 unfold Utf8.encode;have hv : Utf8.valid (R : Int) = true := by unfold Utf8.valid; simp; omega
 rw [if_pos hv, Int.toNat_natCast];dsimp only;rw [if_neg (by omega), if_pos (by omega)]
theorem enc_size {R : Nat} (h1 : 2048 ≤ R) (hv : Utf8.valid (R : Int) = true) : 3 ≤ (Utf8.encode (R : Int)).size := by
 unfold Utf8.encode;rw [if_pos hv, Int.toNat_natCast];dsimp only;rw [if_neg (by omega), if_neg (by omega)]
 split
 · exact Nat.le_refl 3
 · show 3 ≤ 4; decide
theorem enc_le (R : Int) : (Utf8.encode R).size ≤ 4 := by
 unfold Utf8.encode;generalize (if Utf8.valid R = true then R.toNat else Utf8.runeError) = c;dsimp only
 split
 · show 1 ≤ 4; decide
 · split
   · show 2 ≤ 4; decide
   · split
     · show 3 ≤ 4; decide
     · show 4 ≤ 4; decide
theorem conv_rune {R : Int} {E : ByteArray} (h : Utf8.encode R = E) (W : World) : (Go.convert 21 9 (.int .i32 R)).run Tryz.prog W = .ok (.string E) W := by
 subst h
 kernel_rfl
theorem zqe {P : Program} {ops : Array Oper} {rest : List Oper} {o : Oper} {a : Act} {w : World} {Q : Exit → Act → World → Prop} (hg : Region.wanted o (yielded ops a.tmps) = true) (s d : TypeId) (x : Operand) (ho : o.op = .convert s d x) (v r : Value) (hx : a.eval x = v) (hr : Hid (∀ W, (convert s d v).run P W = .ok r W))
 (h : wpList P ops Q rest (a.put o.dst r) w) : wpList P ops Q (o :: rest) a w :=
 BigFrame.wpList_want hg fun _ hK => by
  unfold Oper.wp execOp;simp only [ho, hx, hr.out, Sem.run_bind, Sem.run_pure, Result.andThen_ok];exact hK _ _ h
set_option maxRecDepth 100000 in
theorem sRune_c (R : Nat) (h0 : 128 ≤ R) (hR : R ≤ 1114111) (w : World) :
 Calls Tryz.prog 182 #[.string brk, .int .i32 (R : Int)] w fun e w' => e = .returned (.int .i64 (-1)) ∧ Below w.heap.size w w' := by
 by_cases hE : R = 65533
 · subst hE;clear h0 hR;go_enter Tryz.func182, Tryz.ntmps182;go_wp2
   go_loopg [5, 6] 2 (fun g _ _ wx => ∃ i : Nat, i + g = 2 ∧ wx.heap[w.heap.size]? = some (.stringIter brk i) ∧ Hid (Below w.heap.size w wx))
   case atStart => exact ⟨0, rfl, World.iter_heap w brk 0, (Below.refl _ w).alloc (Nat.le_refl _) _⟩
   case round =>
    obtain ⟨i, hig, hit, HB⟩ := hrel;cases gk with
    | zero =>
     obtain rfl : i = 2 := by omega
     have hnx : ∀ ty, (Instr.next (.pointer (some ⟨w.heap.size, 0, none⟩)) true ty).run Tryz.prog wr = _ := fun ty => Lib.run_next_end_at wr w.heap.size brk 2 ty hit (by decide)
     clear hit;go_wp2
     go_ret
     exact ⟨rfl, HB.out⟩
    | succ g =>
     have h01 : i = 0 ∨ i = 1 := by omega
     rcases h01 with rfl | rfl
     · have hnx : ∀ ty, (Instr.next (.pointer (some ⟨w.heap.size, 0, none⟩)) true ty).run Tryz.prog wr = _ := fun ty => Lib.run_next_ascii_at wr w.heap.size brk 0 ty hit (by decide) (by decide)
       have hit2 := Lib.iterAt_heap wr w.heap.size brk 0 1 hit;have HB2 := hid (Lib.below_iterAt HB.out (k := w.heap.size) (Nat.le_refl _) brk 1);clear hit HB;go_wp2
       go_roundg g
       case measure => omega
       case rel => exact ⟨1, by omega, hit2, HB2⟩
     · have hnx : ∀ ty, (Instr.next (.pointer (some ⟨w.heap.size, 0, none⟩)) true ty).run Tryz.prog wr = _ := fun ty => Lib.run_next_ascii_at wr w.heap.size brk 1 ty hit (by decide) (by decide)
       have hit2 := Lib.iterAt_heap wr w.heap.size brk 1 2 hit;have HB2 := hid (Lib.below_iterAt HB.out (k := w.heap.size) (Nat.le_refl _) brk 2);clear hit HB;go_wp2
       go_roundg g
       case measure => omega
       case rel => exact ⟨2, by omega, hit2, HB2⟩
 · have eE : ((R : Int) == 65533) = false := by rw [beq_eq_false_iff_ne]; omega
   by_cases hv : (decide (R < 55296) || decide (57343 < R)) = true
   · have HV := hid (sValid_c R hR true hv w);have hva : Utf8.valid (R : Int) = true := by unfold Utf8.valid; simp at hv ⊢; omega
     by_cases h2 : R < 2048
     · have hcv := fun W => conv_rune (enc2 h0 h2) W
       obtain ⟨c1, hc1⟩ : ∃ c, UInt8.ofNat (192 + R / 64) = c := ⟨_, rfl⟩;obtain ⟨c2, hc2⟩ : ∃ c, UInt8.ofNat (128 + R % 64) = c := ⟨_, rfl⟩;have hc3 : c2.toNat = 128 + R % 64 := by rw [← hc2, UInt8.toNat_ofNat']; omega
       rw [hc1, hc2] at hcv;have hne : ((((brk : ByteArray)[1]'(by decide)).toNat : Int) != (((⟨#[c1, c2]⟩ : ByteArray)[1]'(by show 1 < 2; decide)).toNat : Int)) = true := by
        show ((10 : Int) != (c2.toNat : Int)) = true;rw [bne_iff_ne]; omega
       have HX := fun c W => Any.strings_IndexByte Tryz.lays137 ⟨#[]⟩ c W
       have Hcv := hid hcv;clear hc1 hc2 hc3 hva hv hcv;go_enter Tryz.func182, Tryz.ntmps182;go_wp2_with (go_at_call 198; (with_reducible refine HV.out.mono ?_); rintro e wx ⟨rfl, rfl⟩)
       go_step3
       go_wp2_with (refine zqe (by rfl) _ _ _ (by rfl) _ _ (by rfl) Hcv ?_);clear HV Hcv
       go_loopw [9] (fun i wr => i = .int .i64 1 ∧ w = wr) (fun _ _ => 0)
       case atStart => exact ⟨rfl, rfl⟩
       case round =>
        obtain ⟨rfl, rfl⟩ := hrel;go_wp2
        go_step3
        go_wp2
        go_quiet (fail)
        have HB := hid (below_drewN (Below.refl w.heap.size w) nq);generalize w.drewN nq = wq at *;go_wp2
        have HY : Hid (∀ (c : Int) (W : World), Calls Tryz.prog 156 #[.string ⟨#[]⟩, .int .u8 c] W fun e w' => e = .returned (.int .i64 (-1)) ∧ w' = W) := fun c W => (HX c W).mono fun e w' h => h
        clear HX;have hsl : ∀ W, (Instr.slice 9 (.string brk) (some (.int .i64 2)) none none).run Tryz.prog W = .ok (.string ⟨#[]⟩) W := fun W => by kernel_rfl
        have hw2 : IntKind.i64.wrap 2 = 2 := by decide
        go_quiet ((go_at_call 156; exact Calls.quiet_of_same (HY.out _ _)))
        go_wp2
        repeat (first | rw [Exit.noGoto_ret] | show Exit.noGoto _ Exit.ret _ _)
        show bodyPost _ _ _ Exit.ret _ _;go_ret
        exact ⟨rfl, below_drewN HB.out _⟩
     · obtain ⟨E, hEn⟩ : ∃ E, Utf8.encode (R : Int) = E := ⟨_, rfl⟩;have Hcv := hid (fun W => conv_rune hEn W);have hsz : 3 ≤ E.size := by rw [← hEn]; exact enc_size (by omega) hva
       have hsz2 : E.size ≤ 4 := by rw [← hEn]; exact enc_le R
       clear hEn hva hv;go_enter Tryz.func182, Tryz.ntmps182;go_wp2_with (go_at_call 198; (with_reducible refine HV.out.mono ?_); rintro e wx ⟨rfl, rfl⟩)
       go_step3
       go_wp2_with (refine zqe (by rfl) _ _ _ (by rfl) _ _ (by rfl) Hcv ?_);clear HV Hcv;have hlt : ¬ ((E.size : Int) - 1 < 2) := by omega
       go_loopw [9] (fun i wr => i = .int .i64 ((E.size : Int) - 1) ∧ w = wr) (fun _ _ => 0)
       case atStart => exact ⟨rfl, rfl⟩
       case round =>
        obtain ⟨rfl, rfl⟩ := hrel;go_wp2
        go_ret
        exact ⟨rfl, Below.refl _ _⟩
   · have HV := hid (sValid_c R hR false (by simpa using hv) w);clear hv;go_enter Tryz.func182, Tryz.ntmps182;go_wp2_with (go_at_call 198; (with_reducible refine HV.out.mono ?_); rintro e wx ⟨rfl, rfl⟩);go_ret
     exact ⟨rfl, Below.refl _ _⟩
def NoU (s : ByteArray) (i : Nat) : Prop := ∀ j, j < i → j < s.size → okB (s.get! j).toNat = true
theorem NoU.step {s : ByteArray} {i k : Nat} (h : NoU s i) (hk : ∀ j, j < k → i + j < s.size ∧ 128 ≤ (s.get! (i + j)).toNat) : NoU s (i + k) := by
 intro j hj hs;rcases Nat.lt_or_ge j i with h1 | h1
 · exact h j h1 hs
 · obtain ⟨d, rfl⟩ : ∃ d, j = i + d := ⟨j - i, by omega⟩;have := (hk d (by omega)).2;unfold okB
   simp; omega
theorem NoU.succ {s : ByteArray} {i : Nat} (h : NoU s i) (hb : okB (s.get! i).toNat = true) : NoU s (i + 1) := by
 intro j hj hs;rcases Nat.lt_or_ge j i with h1 | h1
 · exact h j h1 hs
 · obtain rfl : j = i := by omega
   exact hb
theorem zqa (s : ByteArray) (i : Nat) (hi : i < s.size) : s.get! i = s[i]'hi := by
 cases s with
 | mk a => exact getElem!_pos a i hi
theorem all_iff (s : ByteArray) : ((bytesOf s).all fun c => !(c == 93 || c == 10)) = true ↔ NoU s s.size := by
 rw [List.all_eq_true];constructor
 · intro h j _ hj;have := h ((s[j]'hj).toNat) (List.mem_map.2 ⟨s[j]'hj, by rw [← Array.mem_def]; exact Array.getElem_mem _, rfl⟩);rw [zqa s j hj];exact this
 · intro h x hx;obtain ⟨b, hb, rfl⟩ := List.mem_map.1 hx;obtain ⟨j, hj, e⟩ := List.mem_iff_getElem.1 hb;have hj2 : j < s.size := by simpa using hj
   have := h j hj2 hj2;rw [zqa s j hj2] at this;have e2 : s[j]'hj2 = b := by rw [← e]; rfl
   rw [e2] at this;exact this
theorem index_brk (x : Nat) (hx : x < 256) : (0 ≤ Lib.indexByte brk.data.toList (x.toUInt8)) ↔ okB x = false := by
 revert hx
 revert x
 decide +kernel
theorem sRuneA_c (x : Nat) (hx : x < 128) (z : Int) (hz : Lib.indexByte brk.data.toList x.toUInt8 = z) (w : World) :
 Calls Tryz.prog 182 #[.string brk, .int .i32 (x : Int)] w fun e w' => e = .returned (.int .i64 z) ∧ w = w' := by
 refine (Any.strings_IndexRune_ascii { Tryz.lays152 with } brk (x : Int) w (by omega) (by omega)).mono ?_;rintro e w' ⟨rfl, rfl⟩;rw [Int.toNat_natCast, hz];exact ⟨rfl, rfl⟩
set_option maxRecDepth 100000 in
theorem sAnyS_c (s : ByteArray) (h8 : s.size ≤ 8) (v : Bool) (hv : (bytesOf s).all (fun c => !(c == 93 || c == 10)) = v) (w : World) :
 Calls Tryz.prog 166 #[.string s, .string brk] w fun e w' => ∃ r : Int, e = .returned (.int .i64 r) ∧ decide (0 ≤ r) = !v ∧ Below w.heap.size w w' := by
 have HV := hid hv;clear hv;have h8z : decide ((8 : Int) < (s.size : Int)) = false := decide_eq_false (by omega);go_enter Tryz.func166, Tryz.ntmps166;go_wp2_with (go_at_call 183; refine (Any.strings_shouldUseASCIISet { Tryz.lays153 with } _ _).mono ?_; rintro e w' ⟨rfl, hw⟩; rw [hw, h8z])
 go_loopg [9, 10] s.size (fun g _ _ wx => ∃ i : Nat, s.size ≤ i + g ∧ i ≤ s.size ∧ wx.heap[w.heap.size]? = some (.stringIter s i) ∧ Hid (Below w.heap.size w wx) ∧ Hid (NoU s i))
 case atStart => exact ⟨0, by omega, Nat.zero_le _, World.iter_heap w s 0, (Below.refl _ w).alloc (Nat.le_refl _) _, fun j hj => absurd hj (Nat.not_lt_zero j)⟩
 case round =>
  obtain ⟨i, hig, his, hit, HB, HN⟩ := hrel;by_cases hlt : i < s.size
  · obtain ⟨g', rfl⟩ : ∃ g', gk = g' + 1 := ⟨gk - 1, by omega⟩;have hx256 : (s.get! i).toNat < 256 := (s.get! i).toNat_lt;by_cases hx : (s.get! i).toNat < 128
    · have hnx : ∀ ty, (Instr.next (.pointer (some ⟨w.heap.size, 0, none⟩)) true ty).run Tryz.prog wr = _ := fun ty => Lib.run_next_ascii_at wr w.heap.size s i ty hit hlt (by rw [← zqa s i hlt]; exact hx)
      rw [← zqa s i hlt] at hnx;have hit2 := Lib.iterAt_heap wr w.heap.size s i (i + 1) hit;have HB2 := hid (Lib.below_iterAt HB.out (k := w.heap.size) (Nat.le_refl _) s (i + 1));obtain ⟨W, hW⟩ : ∃ W, wr.iterAt w.heap.size s (i + 1) = W := ⟨_, rfl⟩;rw [hW] at hnx hit2 HB2;obtain ⟨x, hxe⟩ : ∃ x, (s.get! i).toNat = x := ⟨_, rfl⟩;have hok := index_brk x (by omega);obtain ⟨z, hz⟩ : ∃ z, Lib.indexByte brk.data.toList x.toUInt8 = z := ⟨_, rfl⟩;rw [hz] at hok;have Hz := hid hz;clear hz;have HO : Hid (okB x = true → NoU s (i + 1)) := fun e => HN.out.succ (by rw [hxe]; exact e)
      rw [hxe] at hnx hx hx256;have HXE := hid hxe;clear hxe hW hit HB hx256;by_cases hb : okB x = true
      · have hneg : ¬ (0 ≤ z) := fun e => by have := hok.1 e; rw [hb] at this; cases this
        have HNx := hid (HO.out hb);clear hok hb;go_wp2_with (go_at_call 182; refine (sRuneA_c x hx z Hz.out _).mono ?_; rintro e w' ⟨rfl, rfl⟩)
        go_roundg g'
        case measure => omega
        case rel => exact ⟨i + 1, by omega, by omega, hit2, HB2, HNx⟩
      · have hge : 0 ≤ z := hok.2 (by simpa using hb);have HVf : Hid (v = false) := by
         show _ = _;rw [← HV.out];refine Bool.eq_false_iff.2 fun e => hb ?_
         have := (all_iff s).1 e i hlt hlt
         rwa [HXE.out] at this
        clear hok hb;go_wp2_with (go_at_call 182; refine (sRuneA_c x hx z Hz.out _).mono ?_; rintro e w' ⟨rfl, rfl⟩);go_ret
        exact ⟨_, rfl, by rw [HVf.out]; exact decide_eq_true (by omega), HB2.out⟩
    · have hdh := dec_high s i hlt (by omega);have hnx : ∀ ty, (Instr.next (.pointer (some ⟨w.heap.size, 0, none⟩)) true ty).run Tryz.prog wr = _ := fun ty => Lib.run_next_any_at wr w.heap.size s i ty hit hlt
      have hwd := Lib.width_pos s i;have hrl := Lib.rune_le s i;obtain ⟨R, hR⟩ : ∃ R, (Utf8.decode s i).1 = R := ⟨_, rfl⟩;obtain ⟨K, hK⟩ : ∃ K, (Utf8.decode s i).2 = K := ⟨_, rfl⟩;rw [hR, hK] at hnx hdh;rw [hK] at hwd;rw [hR] at hrl;have hlast := (hdh.2 (K - 1) (by omega)).1;have HNx := hid (HN.out.step hdh.2);have hR0 := hdh.1;have hit2 := Lib.iterAt_heap wr w.heap.size s i (i + K) hit;have HB2 := hid (Lib.below_iterAt HB.out (k := w.heap.size) (Nat.le_refl _) s (i + K));obtain ⟨W, hW⟩ : ∃ W, wr.iterAt w.heap.size s (i + K) = W := ⟨_, rfl⟩;rw [hW] at hnx hit2 HB2;clear hdh hW hit HB HN hR hK hx;have HIT : Hid (∀ W', Below W.heap.size W W' → W'.heap[w.heap.size]? = some (.stringIter s (i + K)) ∧ Below w.heap.size w W') := fun W' hb => ⟨(hb.block _ (Array.getElem?_eq_some_iff.1 hit2).1).trans hit2, xqa HB2.out hb⟩
      clear hit2 HB2;go_wp2_with (go_at_call 182; refine (sRune_c R hR0 hrl _).mono ?_; rintro e W' ⟨rfl, hb⟩);have h3 := HIT.out W' hb;have hit3 := h3.1;have HB3 := hid h3.2;clear h3 hb HIT;go_wp2
      go_roundg g'
      case measure => omega
      case rel => exact ⟨i + K, by omega, by omega, hit3, HB3, HNx⟩
  · have hnx : ∀ ty, (Instr.next (.pointer (some ⟨w.heap.size, 0, none⟩)) true ty).run Tryz.prog wr = _ := fun ty => Lib.run_next_end_at wr w.heap.size s i ty hit hlt
    have HVt : Hid (v = true) := by
     show _ = _;rw [← HV.out];exact (all_iff s).2 fun j hj hs => HN.out j (by omega) hs
    clear hit;go_wp2
    go_ret
    exact ⟨_, rfl, by rw [HVt.out]; rfl, HB.out⟩
theorem indexAny_all : ∀ l : List UInt8, decide (0 ≤ Lib.indexAny l brk.data.toList) = !((l.map UInt8.toNat).all fun c => !(c == 93 || c == 10)) := by
 intro l;induction l with
 | nil => rfl
 | cons b l ih =>
  have hc : brk.data.toList.contains b = (b.toNat == 93 || b.toNat == 10) := by
   have : ∀ b : UInt8, brk.data.toList.contains b = (b.toNat == 93 || b.toNat == 10) := by
    intro b;show ([93, 10] : List UInt8).contains b = _;simp only [List.contains_cons, List.contains_nil, Bool.or_false]
    congr 1
    · rw [Bool.eq_iff_iff, beq_iff_eq, beq_iff_eq, ← UInt8.toNat_inj]; rfl
    · rw [Bool.eq_iff_iff, beq_iff_eq, beq_iff_eq, ← UInt8.toNat_inj]; rfl
   exact this b
  have hg := Lib.indexAny_ge brk.data.toList l;rw [List.map_cons, List.all_cons];unfold Lib.indexAny;rw [hc];cases hb : (b.toNat == 93 || b.toNat == 10)
  · rw [Bool.not_false, Bool.true_and, ← ih];simp only [Bool.false_eq_true, if_false];generalize Lib.indexAny l brk.data.toList = z at hg;by_cases hz : z = -1
    · subst hz; rfl
    · rw [if_neg (by simpa using hz)];by_cases h0 : 0 ≤ z
      · rw [decide_eq_true h0, decide_eq_true (by omega)]
      · omega
  · simp
theorem zero_set (W : World) : (zeroValue (Tryz.lays153_ren.t 116)).run Tryz.prog W = .ok (.agg (Array.replicate 256 (.bool false))) W := by kernel_rfl
theorem sAny_c (s : ByteArray) (hs : s.size ≤ 1000000000) (v : Bool) (hv : (bytesOf s).all (fun c => !(c == 93 || c == 10)) = v) (w : World) :
 Calls Tryz.prog 166 #[.string s, .string brk] w fun e w' => ∃ r : Int, e = .returned (.int .i64 r) ∧ decide (0 ≤ r) = !v ∧ Below w.heap.size w w' := by
 by_cases h8 : s.size ≤ 8
 · exact sAnyS_c s h8 v hv w
 · refine (Any.strings_IndexAny_long Tryz.lays153 zero_set (by kernel_rfl) s brk w (by decide) (by omega) (by omega) (by decide) ?_).mono ?_
   · intro j b hb
     match j, hb with
     | 0, hb => cases hb; decide
     | 1, hb => cases hb; decide
   · rintro e w' ⟨rfl, rfl⟩;refine ⟨_, rfl, ?_, xqa (xqc _ _) (xqc _ _)⟩;rw [indexAny_all, ← hv];rfl
theorem sContains_c (s : ByteArray) (hs : s.size ≤ 1000000000) (v : Bool) (hv : (bytesOf s).all (fun c => !(c == 93 || c == 10)) = v) (w : World) :
 Calls Tryz.prog 150 #[.string s, .string brk] w fun e w' => e = .returned (.bool (!v)) ∧ Below w.heap.size w w' := by
 have HA := hid (sAny_c s hs v hv w);clear hv;go_enter Tryz.func150, Tryz.ntmps150;go_wp2_with fail
 refine HA.out.mono ?_;rintro e w1 ⟨r, rfl, hr, bn⟩;have HB := hid bn;clear bn HA;go_wp2
 go_ret
 exact ⟨rfl, HB.out⟩
theorem tBr_c (s : ByteArray) (hs : s.size ≤ 1000000000) (v : Bool) (hv : xjt s = v) (w : World) :
 Calls Tryz.prog 125 #[.string s] w fun e w' => e = .returned (.bool v) ∧ Below w.heap.size w w' := by
 unfold xjt at hv;by_cases h2 : s.size ≤ 200
 · rw [decide_eq_true h2, Bool.true_and] at hv;have HA := hid (sContains_c s hs v hv w);clear hv;go_enter Tryz.func125, Tryz.ntmps125;go_wp2_with fail
   refine HA.out.mono ?_;rintro e w1 ⟨rfl, bn⟩;have HB := hid bn;clear bn HA;go_wp2
   go_ret
   exact ⟨rfl, HB.out⟩
 · rw [decide_eq_false h2, Bool.false_and] at hv;subst hv;go_enter Tryz.func125, Tryz.ntmps125;go_wp2
   go_ret
   exact ⟨rfl, Below.refl _ _⟩
def restN (x : Nd) : Bool := if x.k = 1 then xq0 (bytesOf x.t) && xjt x.u else if x.k = 2 then xjn (bytesOf x.t) else if x.k = 8 then decide (-64 ≤ x.n) && decide (x.n ≤ 64) else !decide (x.k = 0)
theorem emp_is : ByteArray.empty = (⟨#[]⟩ : ByteArray) := rfl
theorem fits_own (x : Nd) : xjw x = (eqN x (ownN x) && restN x) := by
 obtain ⟨k, a, b, n, t, u, p⟩ := x;unfold xjw eqN ywv ownN restN;dsimp only;by_cases h1 : k = 1
 · subst h1; simp; grind
 · by_cases h2 : k = 2
   · subst h2; simp [emp_is]
   · by_cases h3 : xq8 k = true
     · have := twoK_iff.1 h3;simp [h1, h2, h3, emp_is, show ¬ k = 8 by omega, show ¬ k = 0 by omega]
     · by_cases h7 : k = 7
       · subst h7; simp [emp_is, h3]
       · by_cases h8 : k = 8
         · subst h8; simp [emp_is, h3]; grind
         · by_cases h0 : k = 0
           · subst h0; simp [h3]
           · simp [h1, h2, h3, h7, h8, h0, zNd]
set_option maxRecDepth 100000 in
theorem tFits_c (kk a b n : Int) (t u : ByteArray) (p : Int) (ht : t.size ≤ 1000000) (hu : u.size ≤ 1000000) (w : World) (T : XTab w) (v : Bool) (hv : xjw ⟨kk, a, b, n, t, u, p⟩ = v) :
 Calls Tryz.prog 95 #[.agg (ndC kk a b n t u p)] w fun e w' => e = .returned (.bool v) ∧ Below w.heap.size w w' := by
 obtain ⟨V, hV⟩ : ∃ V, ndV (ownN ⟨kk, a, b, n, t, u, p⟩) = V := ⟨_, rfl⟩;have HV := hid hV;have HT := hid T;have HL : Hid (t.size ≤ 1000000 ∧ u.size ≤ 1000000) := ⟨ht, hu⟩;rw [fits_own] at hv;have b0 := xqc w (.cells (ndC kk a b n t u p) 51);have h_rx := xqd w 51 (ndC kk a b n t u p);have HB := hid b0;have HM := hid (xjx kk a b n t u p);clear b0 hV T ht hu;cases hq : eqN ⟨kk, a, b, n, t, u, p⟩ (ownN ⟨kk, a, b, n, t, u, p⟩)
 · rw [hq, Bool.false_and] at hv;subst hv;have HQ := hid hq;clear hq;go_enter Tryz.func95, Tryz.ntmps95;go_wp2_with fail
   generalize w.alloc (.cells (ndC kk a b n t u p) 51) = wS at *;obtain ⟨q_x, eg⟩ : ∃ g, g = w.heap.size := ⟨_, rfl⟩;rw [← eg] at h_rx ⊢;clear eg
   refine xz7 4 0 [3, 4, 5, 6] ?aF4 (fun wx => Below wS.heap.size wS wx) (fun k vv wx => match k with
    | 0 => vv = .agg (ndC kk a b n t u p)
    | 1 => vv = .agg (ndC kk a b n t u p)
    | 2 => vv = .agg V
    | _ => vv = .bool true)
    (fun k => false) (by kernel_rfl) ?haF4 rfl (by kernel_rfl) (by kernel_rfl) (fun _ _ _ _ _ h => h) ?hSb4 ?hPb4 ?hS4 ?hop4 ?hfin4
   case haF4 =>
    intro vals;simp only [xqx, List.getElem?_cons_zero, List.getElem?_cons_succ, Act.put, List.setIfInBounds_toArray, List.set_cons_zero, List.set_cons_succ];exact rfl
   case hSb4 => exact fun wx w2 hb hS => xqa hS hb
   case hPb4 =>
    intro k v wa wb hb h
    match k, h with
    | 0, h => exact h
    | 1, h => exact h
    | 2, h => exact h
    | _ + 3, h => exact h
   case hS4 => exact (Below.refl _ _).drew
   case hop4 =>
    refine .cons (k := 0) ?_ (.cons (k := 1) ?_ (.cons (k := 2) ?_ (.cons (k := 3) ?_ (.nil))))
    all_goals intro vals wr hS hd KC hK
    all_goals (show Oper.wp _ _ _ _ _ _; dsimp only)
    · refine xq1 51 _ rfl _ _ rfl (ndC kk a b n t u p) (hid (h_rx.below hS).inV) (hid HM.out) ?_;refine hK _ _ rfl (Below.refl _ _) (by first | rfl | simp) (fun h => by cases h)
    · refine xq1 51 _ rfl _ _ rfl (ndC kk a b n t u p) (hid (h_rx.below hS).inV) (hid HM.out) ?_;refine hK _ _ rfl (Below.refl _ _) (by first | rfl | simp) (fun h => by cases h)
    · have d1 : vals 1 = _ := hd 1 (by decide +kernel);rw [d1];go_simp;go_at_call 123
      with_reducible refine (tOwn_c kk a b n t u p V HV.out _).mono ?_
      rintro e w2 ⟨rfl, bn_r⟩;refine hK _ _ rfl bn_r rfl (fun h => by cases h)
    · have d0 : vals 0 = _ := hd 0 (by decide +kernel);have d2 : vals 2 = _ := hd 2 (by decide +kernel);rw [d0, d2];have heq : ∀ W, (Op.equalIn 10000 51 (.agg (ndC kk a b n t u p)) (.agg V)).run Tryz.prog W = .ok false W := fun W => by
       have := yvk (x := ⟨kk, a, b, n, t, u, p⟩) (y := ownN ⟨kk, a, b, n, t, u, p⟩) HQ.out W;rw [HV.out] at this;exact this
      go_simp;refine hK _ _ rfl (Below.refl _ _) (by first | rfl | simp) (fun h => by cases h)
   case hfin4 =>
    intro vals wr hS hP hne;have ez_3 : vals 3 = _ := hP 3 (by decide)
    try dsimp only
    rw [ez_3];refine wpAny_done (by kernel_rfl) ?_ _;have HE := hid (xqa HB.out hS);clear hS hP hne;go_wp2
    go_ret
    exact ⟨rfl, HE.out⟩
 · rw [hq, Bool.true_and] at hv;have HQ := hid hq;unfold restN at hv;dsimp only at hv;clear hq;go_enter Tryz.func95, Tryz.ntmps95;go_wp2_with fail
   generalize w.alloc (.cells (ndC kk a b n t u p) 51) = wS at *;obtain ⟨q_x, eg⟩ : ∃ g, g = w.heap.size := ⟨_, rfl⟩;rw [← eg] at h_rx ⊢;clear eg
   refine xz7 4 0 [3, 4, 5, 6] ?aF5 (fun wx => Below wS.heap.size wS wx) (fun k vv wx => match k with
    | 0 => vv = .agg (ndC kk a b n t u p)
    | 1 => vv = .agg (ndC kk a b n t u p)
    | 2 => vv = .agg V
    | _ => vv = .bool false)
    (fun k => false) (by kernel_rfl) ?haF5 rfl (by kernel_rfl) (by kernel_rfl) (fun _ _ _ _ _ h => h) ?hSb5 ?hPb5 ?hS5 ?hop5 ?hfin5
   case haF5 =>
    intro vals;simp only [xqx, List.getElem?_cons_zero, List.getElem?_cons_succ, Act.put, List.setIfInBounds_toArray, List.set_cons_zero, List.set_cons_succ];exact rfl
   case hSb5 => exact fun wx w2 hb hS => xqa hS hb
   case hPb5 =>
    intro k v wa wb hb h
    match k, h with
    | 0, h => exact h
    | 1, h => exact h
    | 2, h => exact h
    | _ + 3, h => exact h
   case hS5 => exact (Below.refl _ _).drew
   case hop5 =>
    refine .cons (k := 0) ?_ (.cons (k := 1) ?_ (.cons (k := 2) ?_ (.cons (k := 3) ?_ (.nil))))
    all_goals intro vals wr hS hd KC hK
    all_goals (show Oper.wp _ _ _ _ _ _; dsimp only)
    · refine xq1 51 _ rfl _ _ rfl (ndC kk a b n t u p) (hid (h_rx.below hS).inV) (hid HM.out) ?_;refine hK _ _ rfl (Below.refl _ _) (by first | rfl | simp) (fun h => by cases h)
    · refine xq1 51 _ rfl _ _ rfl (ndC kk a b n t u p) (hid (h_rx.below hS).inV) (hid HM.out) ?_;refine hK _ _ rfl (Below.refl _ _) (by first | rfl | simp) (fun h => by cases h)
    · have d1 : vals 1 = _ := hd 1 (by decide +kernel);rw [d1];go_simp;go_at_call 123
      with_reducible refine (tOwn_c kk a b n t u p V HV.out _).mono ?_
      rintro e w2 ⟨rfl, bn_r⟩;refine hK _ _ rfl bn_r rfl (fun h => by cases h)
    · have d0 : vals 0 = _ := hd 0 (by decide +kernel);have d2 : vals 2 = _ := hd 2 (by decide +kernel);rw [d0, d2];have heq : ∀ W, (Op.equalIn 10000 51 (.agg (ndC kk a b n t u p)) (.agg V)).run Tryz.prog W = .ok true W := fun W => by
       have := yvk (x := ⟨kk, a, b, n, t, u, p⟩) (y := ownN ⟨kk, a, b, n, t, u, p⟩) HQ.out W;rw [HV.out] at this;exact this
      go_simp;refine hK _ _ rfl (Below.refl _ _) (by first | rfl | simp) (fun h => by cases h)
   case hfin5 =>
    intro vals wr hS hP hne;have ez_3 : vals 3 = _ := hP 3 (by decide)
    try dsimp only
    rw [ez_3];refine wpAny_done (by kernel_rfl) ?_ _;have hx2 := h_rx.below hS;have k0 := hx2.cell (k := 0) (v := .int .i64 kk) rfl;have k3 := hx2.cell (k := 3) (v := .int .i64 n) rfl;have k4 := hx2.cell (k := 4) (v := .string t) rfl;have k5 := hx2.cell (k := 5) (v := .string u) rfl;have HE := hid (xqa HB.out hS);have HTw := hid (HT.out.below HE.out);clear hS hP hne hx2 h_rx HM HV HQ HB HT;by_cases h1 : kk = 1
    · subst h1;rw [if_pos rfl] at hv;cases hg : xq0 (bytesOf t)
      · rw [hg, Bool.false_and] at hv;subst hv;have HG := hid hg;clear hg;go_wp2_with fail
        refine (xwn t (by have := HL.out.1; omega) _ HTw.out.1 false HG.out).mono ?_;rintro e wx ⟨rfl, rfl⟩;go_wp2
        go_ret
        exact ⟨rfl, HE.out⟩
      · rw [hg, Bool.true_and] at hv;have HG := hid hg;have HU := hid hv;clear hg hv;go_wp2_with fail
        refine (xwn t (by have := HL.out.1; omega) _ HTw.out.1 true HG.out).mono ?_;rintro e wx ⟨rfl, rfl⟩;go_wp2_with fail
        refine (tBr_c u (by have := HL.out.2; omega) v HU.out _).mono ?_;rintro e w2 ⟨rfl, bn⟩;have HE2 := hid (xqa HE.out bn);clear bn;go_wp2
        go_ret
        exact ⟨rfl, HE2.out⟩
    · have e1 : (kk == 1) = false := by rw [beq_eq_false_iff_ne]; exact h1
      rw [if_neg h1] at hv;by_cases h2 : kk = 2
      · subst h2;rw [if_pos rfl] at hv;have HN := hid hv;clear hv;go_wp2_with fail
        refine (xj0 t (by have := HL.out.1; omega) _ HTw.out.2 v HN.out).mono ?_;rintro e wx ⟨rfl, rfl⟩;go_wp2
        go_ret
        exact ⟨rfl, HE.out⟩
      · have e2 : (kk == 2) = false := by rw [beq_eq_false_iff_ne]; exact h2
        rw [if_neg h2] at hv;by_cases h8 : kk = 8
        · subst h8;rw [if_pos rfl] at hv;by_cases n1 : -64 ≤ n
          · by_cases n2 : n ≤ 64
            · rw [decide_eq_true n1, decide_eq_true n2] at hv;subst hv;go_wp2
              go_ret
              exact ⟨rfl, HE.out⟩
            · rw [decide_eq_true n1, decide_eq_false n2] at hv;subst hv;go_wp2
              go_ret
              exact ⟨rfl, HE.out⟩
          · rw [decide_eq_false n1, Bool.false_and] at hv;subst hv;go_wp2
            go_ret
            exact ⟨rfl, HE.out⟩
        · have e8 : (kk == 8) = false := by rw [beq_eq_false_iff_ne]; exact h8
          rw [if_neg h8] at hv;by_cases h0 : kk = 0
          · subst h0;rw [decide_eq_true rfl] at hv;subst hv;go_wp2
            go_ret
            exact ⟨rfl, HE.out⟩
          · rw [decide_eq_false h0] at hv;subst hv;have e0 : (kk != 0) = true := by rw [bne_iff_ne]; exact h0
            go_wp2
            go_ret
            exact ⟨rfl, HE.out⟩
end Go.Proofs.YtannifhcjcbkcaaGreatDoor
