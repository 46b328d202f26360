/- Part 9 of the texts that the statements of this seat lean on: mathematics, and what functions answer, as contracts over memory; each part says its own conditions. -/
import Derived.Test.YtannifhcjcbkcaaGreatDoorMB8
import Derived.Test.YtannifhcjcbkcaaGreatDoorShelf
import Derived.Shelf.Strconv.AtoiAll
import Derived.Lib.AtoiTie
set_option linter.unusedVariables false
set_option maxHeartbeats 8000000
namespace Go.Proofs.YtannifhcjcbkcaaGreatDoor
open Go.RowKit Limb
open Lib (hid)
def samB (k k2 : Int) (nm nm2 ot ot2 nu nu2 va va2 un un2 : ByteArray) (pl pl2 : Int) (ts us : List Nd) : Bool := decide (k = k2) && decide (nm = nm2) && decide (ot = ot2) && decide (nu = nu2) && decide (va = va2) && decide (un = un2) && decide (pl = pl2) && sameT ts us
def samD (x y : Dc) : Bool := samB x.k y.k (strOf x.nm) (strOf y.nm) (strOf x.ot) (strOf y.ot) (strOf x.nu) (strOf y.nu) (strOf x.va) (strOf y.va) (strOf x.un) (strOf y.un) x.pl y.pl x.tr y.tr
def samDs : List Dc → List Dc → Bool
 | [], [] => true
 | x :: a, y :: b => samD x y && samDs a b
 | _, _ => false
theorem samDs_iff : ∀ {a b : List Dc}, samDs a b = true ↔ a.length = b.length ∧ ∀ (i : Nat) (x y : Dc), a[i]? = some x → b[i]? = some y → samD x y = true
 | [], [] => ⟨fun _ => ⟨rfl, fun i x y h => by simp at h⟩, fun _ => rfl⟩
 | [], y :: b => ⟨fun h => (by cases h), fun h => (by have := h.1; simp at this)⟩
 | x :: a, [] => ⟨fun h => (by cases h), fun h => (by have := h.1; simp at this)⟩
 | x :: a, y :: b => by
  show (samD x y && samDs a b) = true ↔ _;rw [Bool.and_eq_true, samDs_iff (a := a) (b := b)];constructor
  · rintro ⟨h1, h2, h3⟩;refine ⟨by simp [h2], fun i u v hu hv => ?_⟩;cases i with
    | zero => simp at hu hv; subst hu hv; exact h1
    | succ i => exact h3 i u v (by simpa using hu) (by simpa using hv)
  · rintro ⟨h1, h2⟩;exact ⟨h2 0 x y rfl rfl, by simpa using h1, fun i u v hu hv => h2 (i + 1) u v (by simpa using hu) (by simpa using hv)⟩
set_option maxRecDepth 100000 in
theorem yjk {w : World} {k k2 pl pl2 at1 at2 : Int} {nm nm2 ot ot2 nu nu2 va va2 un un2 : ByteArray} {A B : Option Addr} {n c m d : Nat} {ts us : List Nd} (h1 : TreR w A n c ts) (h2 : TreR w B m d us) (v : Bool) (hv : samB k k2 nm nm2 ot ot2 nu nu2 va va2 un un2 pl pl2 ts us = v) :
 Calls Tryz.prog 64 #[.agg (dcC k nm ot nu va un A n c pl at1), .agg (dcC k2 nm2 ot2 nu2 va2 un2 B m d pl2 at2)] w fun e w' => e = .returned (.bool v) ∧ Below w.heap.size w w' := by
 unfold samB at hv;obtain ⟨tb, htb⟩ : ∃ b, sameT ts us = b := ⟨_, rfl⟩;have HTb := hid htb;rw [htb] at hv;clear htb;have bw := zqc w;have h_rx := xqd w 62 (dcC k nm ot nu va un A n c pl at1);have bn := xqc w (.cells (dcC k nm ot nu va un A n c pl at1) 62);replace h1 := h1.below bn;replace h2 := h2.below bn;replace bw := xqa bw bn;clear bn;have h_ry := xqd (w.alloc (.cells (dcC k nm ot nu va un A n c pl at1) 62)) 62 (dcC k2 nm2 ot2 nu2 va2 un2 B m d pl2 at2);have bn := xqc (w.alloc (.cells (dcC k nm ot nu va un A n c pl at1) 62)) (.cells (dcC k2 nm2 ot2 nu2 va2 un2 B m d pl2 at2) 62);replace h1 := h1.below bn;replace h2 := h2.below bn;replace h_rx := h_rx.below bn;replace bw := xqa bw bn;clear bn;simp only [World.size_alloc] at h_ry;go_enter Tryz.func64, Tryz.ntmps64
 go_upto_region 1 with fail
 generalize (w.alloc (.cells (dcC k nm ot nu va un A n c pl at1) 62)).alloc (.cells (dcC k2 nm2 ot2 nu2 va2 un2 B m d pl2 at2) 62) = w1 at *;obtain ⟨q_y, eg⟩ : ∃ g, g = w.heap.size + 1 := ⟨_, rfl⟩;have hqy : Hid (w.heap.size ≤ q_y) := by show _ ≤ _; omega
 rw [← eg] at h_ry ⊢;have e_y := eg;clear eg;obtain ⟨q_x, eg⟩ : ∃ g, g = w.heap.size := ⟨_, rfl⟩;have hqx : Hid (w.heap.size ≤ q_x) := by show _ ≤ _; omega
 rw [← eg] at h_rx ⊢;have e_x := eg;clear eg;have hne_x_y : Hid (q_x ≠ q_y) := by show _ ≠ _; omega
 clear e_x e_y;have H1 := hid h1;have H2 := hid h2;have HB := hid bw;clear h1 h2 bw hqx hqy hne_x_y;have x0 := h_rx.cell (k := 0) (v := .int .i64 k) rfl;have x1 := h_rx.cell (k := 1) (v := .string nm) rfl;have x2 := h_rx.cell (k := 2) (v := .string ot) rfl;have x3 := h_rx.cell (k := 3) (v := .string nu) rfl;have x4 := h_rx.cell (k := 4) (v := .string va) rfl;have x5 := h_rx.cell (k := 5) (v := .string un) rfl;have x7 := h_rx.cell (k := 7) (v := .int .i64 pl) rfl;have x6 := h_rx.cell (k := 6) (v := .slice A n c) rfl;have y0 := h_ry.cell (k := 0) (v := .int .i64 k2) rfl;have y1 := h_ry.cell (k := 1) (v := .string nm2) rfl;have y2 := h_ry.cell (k := 2) (v := .string ot2) rfl;have y3 := h_ry.cell (k := 3) (v := .string nu2) rfl;have y4 := h_ry.cell (k := 4) (v := .string va2) rfl;have y5 := h_ry.cell (k := 5) (v := .string un2) rfl;have y7 := h_ry.cell (k := 7) (v := .int .i64 pl2) rfl;have y6 := h_ry.cell (k := 6) (v := .slice B m d) rfl;clear h_rx h_ry;by_cases h0 : k = k2
 · subst h0;by_cases h1 : nm = nm2
   · subst h1;by_cases h2 : ot = ot2
     · subst h2;by_cases h3 : nu = nu2
       · subst h3;by_cases h4 : va = va2
         · subst h4;by_cases h5 : un = un2
           · subst h5;by_cases h6 : pl = pl2
             · subst h6;cases tb with
               | false =>
                obtain rfl : v = false := by rw [← hv]; simp
                clear hv;go_wp2_with (go_at_call 104; (with_reducible refine (tSame_c H1.out H2.out _ HTb.out).mono ?_); rintro e wx ⟨rfl, bn⟩; have HB2 := hid (xqa HB.out bn); clear bn);go_ret
                exact ⟨rfl, HB2.out⟩
               | true =>
                obtain rfl : v = true := by rw [← hv]; simp
                clear hv;go_wp2_with (go_at_call 104; (with_reducible refine (tSame_c H1.out H2.out _ HTb.out).mono ?_); rintro e wx ⟨rfl, bn⟩; have HB2 := hid (xqa HB.out bn); clear bn);go_ret
                exact ⟨rfl, HB2.out⟩
             · have e6 : (pl == pl2) = false := by rw [beq_eq_false_iff_ne]; exact h6
               obtain rfl : v = false := by rw [← hv]; simp [h6]
               clear hv;go_wp2_with fail
               go_ret
               exact ⟨rfl, HB.out⟩
           · have e5 : (un.toList == un2.toList) = false := yj0 h5;obtain rfl : v = false := by rw [← hv]; simp [h5]
             clear hv;go_wp2_with fail
             go_ret
             exact ⟨rfl, HB.out⟩
         · have e4 : (va.toList == va2.toList) = false := yj0 h4;obtain rfl : v = false := by rw [← hv]; simp [h4]
           clear hv;go_wp2_with fail
           go_ret
           exact ⟨rfl, HB.out⟩
       · have e3 : (nu.toList == nu2.toList) = false := yj0 h3;obtain rfl : v = false := by rw [← hv]; simp [h3]
         clear hv;go_wp2_with fail
         go_ret
         exact ⟨rfl, HB.out⟩
     · have e2 : (ot.toList == ot2.toList) = false := yj0 h2;obtain rfl : v = false := by rw [← hv]; simp [h2]
       clear hv;go_wp2_with fail
       go_ret
       exact ⟨rfl, HB.out⟩
   · have e1 : (nm.toList == nm2.toList) = false := yj0 h1;obtain rfl : v = false := by rw [← hv]; simp [h1]
     clear hv;go_wp2_with fail
     go_ret
     exact ⟨rfl, HB.out⟩
 · have e0 : (k == k2) = false := by rw [beq_eq_false_iff_ne]; exact h0
   obtain rfl : v = false := by rw [← hv]; simp [h0]
   clear hv;go_wp2_with fail
   go_ret
   exact ⟨rfl, HB.out⟩
set_option maxRecDepth 100000 in
theorem wEqf_c {w : World} {A B : Option Addr} {n c m0 d : Nat} {ds es : List Dc} (h1 : DcR w A n c ds) (h2 : DcR w B m0 d es) (v : Bool) (hv : samDs ds es = v) :
 Calls Tryz.prog 69 #[.slice A n c, .slice B m0 d, .func (.func 64) #[] #[]] w fun e w' => e = .returned (.bool v) ∧ Below w.heap.size w w' := by
 have hn := h1.len;have hn2 := h2.len;have hc : n ≤ c ∧ c ≤ maxLen := by obtain ⟨_, _, _, a, b, _⟩ := h1; exact ⟨a, b⟩
 have hc2 : m0 ≤ d ∧ d ≤ maxLen := by obtain ⟨_, _, _, a, b, _⟩ := h2; exact ⟨a, b⟩
 obtain ⟨hc, hcm⟩ := hc;obtain ⟨hc2, hcm2⟩ := hc2;have H1 := hid h1;have H2 := hid h2;have HN1 := hid hn;have HN2 := hid hn2;have HV := hid hv;clear h1 h2 hn hn2 hv;have eq1 : maxLen = 9223372036854775807 := rfl;by_cases hl : n = m0
 · subst hl;go_enter Tryz.func69, Tryz.ntmps69;go_wp2
   go_loopw [17] (fun i wr => ∃ k : Nat, i = .int .i64 (k : Int) ∧ k ≤ n ∧ Hid (∀ i x y, i < k → ds[i]? = some x → es[i]? = some y → samD x y = true) ∧ Hid (Below w.heap.size w wr)) (fun i _ => n - (intOf i).toNat)
   case atStart => exact ⟨0, rfl, Nat.zero_le _, fun i x y h => absurd h (Nat.not_lt_zero i), Below.refl _ _⟩
   case round =>
    obtain ⟨k, rfl, hk, HP, HB⟩ := hrel;by_cases hlt : k < n
    · skip
      obtain ⟨x, hx⟩ : ∃ x, ds[k]? = some x := ⟨_, List.getElem?_eq_getElem (by rw [← HN1.out]; exact hlt)⟩;obtain ⟨y, hy⟩ : ∃ y, es[k]? = some y := ⟨_, List.getElem?_eq_getElem (by rw [← HN2.out]; exact hlt)⟩;have HX := hid hx;have HY := hid hy;obtain ⟨g, og, A1, q1, c1, nm1, ot1, nu1, va1, un1, rfl, hg, hin, ht1, u1, u2, u3, u4, u5⟩ := (H1.out.below HB.out).at2 hx;obtain ⟨g2, og2, A2, q2, c2, nm2, ot2, nu2, va2, un2, rfl, hg2, hin2, ht2, v1, v2, v3, v4, v5⟩ := (H2.out.below HB.out).at2 hy;obtain ⟨z, hz⟩ : ∃ z, samD x y = z := ⟨_, rfl⟩;have HZ := hid hz;unfold samD at hz;rw [u1, u2, u3, u4, u5, v1, v2, v3, v4, v5] at hz;have HZ2 := hid hz;clear hz u1 u2 u3 u4 u5 v1 v2 v3 v4 v5;have bn1 := xqc wr (.cells (dcC x.k nm1 ot1 nu1 va1 un1 A1 q1 c1 x.pl x.at') 62);have bn2 := xqc (wr.alloc (.cells (dcC x.k nm1 ot1 nu1 va1 un1 A1 q1 c1 x.pl x.at') 62)) (.cells (dcC y.k nm2 ot2 nu2 va2 un2 A2 q2 c2 y.pl y.at') 62);have HI_1 : Hid (InV wr g (og + k * 9) (dcC x.k nm1 ot1 nu1 va1 un1 A1 q1 c1 x.pl x.at')) := hin;have HI_2 : Hid (InV (wr.alloc (.cells (dcC x.k nm1 ot1 nu1 va1 un1 A1 q1 c1 x.pl x.at') 62)) g2 (og2 + k * 9) (dcC y.k nm2 ot2 nu2 va2 un2 A2 q2 c2 y.pl y.at')) := InV.below hin2 hg2 bn1;have HI_3 : Hid (InV ((wr.alloc (.cells (dcC x.k nm1 ot1 nu1 va1 un1 A1 q1 c1 x.pl x.at') 62)).alloc (.cells (dcC y.k nm2 ot2 nu2 va2 un2 A2 q2 c2 y.pl y.at') 62)) wr.heap.size 0 (dcC x.k nm1 ot1 nu1 va1 un1 A1 q1 c1 x.pl x.at')) := ((xqd wr 62 (dcC x.k nm1 ot1 nu1 va1 un1 A1 q1 c1 x.pl x.at')).below bn2).inV
      have HI_4 : Hid (InV ((wr.alloc (.cells (dcC x.k nm1 ot1 nu1 va1 un1 A1 q1 c1 x.pl x.at') 62)).alloc (.cells (dcC y.k nm2 ot2 nu2 va2 un2 A2 q2 c2 y.pl y.at') 62)) (wr.heap.size + 1) 0 (dcC y.k nm2 ot2 nu2 va2 un2 A2 q2 c2 y.pl y.at')) := by have := (xqd (wr.alloc (.cells (dcC x.k nm1 ot1 nu1 va1 un1 A1 q1 c1 x.pl x.at') 62)) 62 (dcC y.k nm2 ot2 nu2 va2 un2 A2 q2 c2 y.pl y.at')).inV; rw [World.size_alloc] at this; exact this
      have HM_1 := hid (xq3 x.k nm1 ot1 nu1 va1 un1 A1 q1 c1 x.pl x.at');have HM_2 := hid (xq3 y.k nm2 ot2 nu2 va2 un2 A2 q2 c2 y.pl y.at');have HU_1 : Hid (xq7 Tryz.prog 62 (dcC x.k nm1 ot1 nu1 va1 un1 A1 q1 c1 x.pl x.at').size ∧ zDc.size = (dcC x.k nm1 ot1 nu1 va1 un1 A1 q1 c1 x.pl x.at').size ∧ ∀ v ∈ dcC x.k nm1 ot1 nu1 va1 un1 A1 q1 c1 x.pl x.at', v.oneCell' = true) := ⟨xq3 _ _ _ _ _ _ _ _ _ _ _, rfl, by simp [Value.oneCell']⟩;have HU_2 : Hid (xq7 Tryz.prog 62 (dcC y.k nm2 ot2 nu2 va2 un2 A2 q2 c2 y.pl y.at').size ∧ zDc.size = (dcC y.k nm2 ot2 nu2 va2 un2 A2 q2 c2 y.pl y.at').size ∧ ∀ v ∈ dcC y.k nm2 ot2 nu2 va2 un2 A2 q2 c2 y.pl y.at', v.oneCell' = true) := ⟨xq3 _ _ _ _ _ _ _ _ _ _ _, rfl, by simp [Value.oneCell']⟩;have HT1 := hid (ht1.below (xqa bn1 bn2));have HT2 := hid (ht2.below (xqa bn1 bn2));have HB2 := hid (xqa HB.out (xqa bn1 bn2));clear hx hy hin hin2 hg hg2 bn1 bn2 HB ht1 ht2;go_wp2_with (first | (refine xqf (by rfl) _ _ (by rfl) _ _ (by rfl) _ (by assumption) (by assumption) ?_) | (refine xqg (by rfl) _ _ _ (by rfl) _ _ _ (by rfl) (by rfl) (by assumption) ?_));refine (yjk HT1.out HT2.out z HZ2.out).mono ?_;rintro e w3 ⟨rfl, bn⟩;have HB3 := hid (xqa HB2.out bn);clear bn HB2 HI_1 HI_2 HI_3 HI_4 HU_1 HU_2 HT1 HT2 HZ2;cases z
      · have HV0 : Hid (v = false) := by
         show _ = _;rw [← HV.out];refine Bool.eq_false_iff.2 fun e => ?_
         have := (samDs_iff.1 e).2 k _ _ HX.out HY.out;rw [HZ.out] at this; cases this
        go_wp2
        go_ret
        exact ⟨by rw [HV0.out]; rfl, HB3.out⟩
      · have HP2 : Hid (∀ i x y, i < k + 1 → ds[i]? = some x → es[i]? = some y → samD x y = true) := by
         intro i x y hi h1 h2;rcases Nat.lt_or_ge i k with h | h
         · exact HP.out i x y h h1 h2
         · obtain rfl : i = k := by omega
           obtain rfl := Option.some.inj (HX.out.symm.trans h1);obtain rfl := Option.some.inj (HY.out.symm.trans h2);exact HZ.out
        clear HP;go_wp2
        go_roundw
        case rel => exact ⟨k + 1, by go_num, hlt, HP2, HB3⟩
        case measure => simp [intOf]; omega
    · obtain rfl : k = n := by omega
      have HV1 : Hid (v = true) := by
       show _ = _;rw [← HV.out];exact samDs_iff.2 ⟨HN1.out.symm.trans HN2.out, fun i x y h1 h2 => HP.out i x y (by have := (List.getElem?_eq_some_iff.1 h1).1; rw [HN1.out]; exact this) h1 h2⟩
      go_wp2
      go_ret
      exact ⟨by rw [HV1.out]; rfl, HB.out⟩
 · have HV0 : Hid (v = false) := by
    show _ = _;rw [← HV.out];exact Bool.eq_false_iff.2 fun e => hl (by rw [HN1.out, HN2.out]; exact (samDs_iff.1 e).1)
   have e0 : ((n : Int) != (m0 : Int)) = true := by rw [bne_iff_ne]; omega
   go_enter Tryz.func69, Tryz.ntmps69;go_wp2
   go_ret
   exact ⟨by rw [HV0.out]; rfl, Below.refl _ _⟩
set_option maxRecDepth 100000 in
theorem wSame_c {w : World} {A B : Option Addr} {n c m0 d : Nat} {ds es : List Dc} (h1 : DcR w A n c ds) (h2 : DcR w B m0 d es) (v : Bool) (hv : samDs ds es = v) :
 Calls Tryz.prog 34 #[.slice A n c, .slice B m0 d] w fun e w' => e = .returned (.bool v) ∧ Below w.heap.size w w' := by
 have HE := hid (wEqf_c h1 h2 v hv);clear h1 h2 hv;go_enter Tryz.func34, Tryz.ntmps34;go_wp2_with fail
 refine HE.out.mono ?_;rintro e w1 ⟨rfl, bn⟩;have HB := hid bn;clear bn HE;go_wp2
 go_ret
 exact ⟨rfl, HB.out⟩
section
variable {w : World} {B q en : Nat} {L : Lim} {st : St}
theorem zjf : ∀ (l : List UInt8) (acc : Nat), (l.map UInt8.toNat).all xq2 = true → Lib.decFrom acc l = some ((l.map UInt8.toNat).foldl (fun a d => a * 10 + (d - 48)) acc)
 | [], acc, _ => rfl
 | c :: r, acc, h => by
  rw [List.map_cons, List.all_cons, Bool.and_eq_true] at h;have hd : Lib.digitVal c = some (c.toNat - 48) := if_pos (by have := h.1; unfold xq2 at this; simpa using this);simp only [Lib.decFrom, hd];rw [zjf r _ h.2]; rfl
theorem zje : ∀ (l : List UInt8) (acc : Nat), (l.map UInt8.toNat).all xq2 = false → Lib.decFrom acc l = Option.none
 | [], acc, h => by cases h
 | c :: r, acc, h => by
  rw [List.map_cons, List.all_cons] at h;by_cases hc : xq2 c.toNat = true
  · have hd : Lib.digitVal c = some (c.toNat - 48) := if_pos (by unfold xq2 at hc; simpa using hc);simp only [Lib.decFrom, hd];rw [hc, Bool.true_and] at h;exact zje r _ h
  · have hd : Lib.digitVal c = Option.none := if_neg (by unfold xq2 at hc; simpa using hc);simp only [Lib.decFrom, hd]
theorem atoi_hd {tx : List Nat} {E : ByteArray} (hE : bytesOf E = tx) {c : Nat} {r : List Nat} (h : tx = c :: r) (hc : xq2 c = true) : Lib.atoi E.data.toList = if tx.all xq2 = true then some ((digV tx : Nat) : Int) else Option.none := by
 unfold bytesOf at hE;generalize E.data.toList = l at hE ⊢;subst h;obtain ⟨y, l3, e4, e5, e6⟩ := List.map_eq_cons_iff.1 hE;subst e4;have n1 : (y == 45) = false := by
  rw [beq_eq_false_iff_ne]; rintro rfl;rw [← e5] at hc; exact absurd hc (by decide)
 have n2 : (y == 43) = false := by
  rw [beq_eq_false_iff_ne]; rintro rfl;rw [← e5] at hc; exact absurd hc (by decide)
 show (if (y == 45) = true then (Lib.decNat l3).map (fun m : Nat => -(m : Int)) else if (y == 43) = true then (Lib.decNat l3).map (fun m : Nat => (m : Int)) else (Lib.decNat (y :: l3)).map (fun m : Nat => (m : Int))) = _;rw [n1, n2];simp only [Bool.false_eq_true, if_false];have e0 : Lib.decNat (y :: l3) = Lib.decFrom 0 (y :: l3) := rfl;rw [e0, ← hE];by_cases ha : ((y :: l3).map UInt8.toNat).all xq2 = true
 · rw [if_pos ha, zjf _ _ ha]; rfl
 · rw [if_neg ha, zje _ _ (by simpa using ha)]; rfl
theorem pAtoi_c (E : ByteArray) (hs : E.size ≤ 5000) (w : World) (T : ETab w) :
 Calls Tryz.prog 141 #[.string E] w fun e w' => ∃ N v, e = .returned (.tuple #[.int .i64 N, v]) ∧ Below w.heap.size w w' ∧ (E.size ≤ 18 → (∀ n, Lib.atoi E.data.toList = some n → N = n ∧ v = .nilIface) ∧ (Lib.atoi E.data.toList = Option.none → ∃ t p, v = .iface t p)) := by
 obtain ⟨⟨te, pe, h1⟩, te2, pe2, h2⟩ := T;have hsh : E.size ≤ 18 → Lib.atoiAll E.data.toList = Lib.NumEnd.ofOption (Lib.atoi E.data.toList) := fun h => Lib.atoiAll_short _ (by rw [Array.length_toList]; exact h)
 cases h : Lib.atoiAll E.data.toList
 · rename_i v
   refine (Any.strconv_Atoi_ok Tryz.laysC172 E (by omega) v h w).mono ?_;rintro e w' ⟨rfl, hw⟩;refine ⟨v, .nilIface, rfl, ?_, fun hz => ⟨fun n hn => ?_, fun hn => ?_⟩⟩
   · rcases hw with rfl | ⟨t, rfl⟩
     · exact Below.refl _ _
     · exact Lib.bytesWorld_below _ _ _
   · have := hsh hz; rw [h, hn] at this; injection this with this; exact ⟨this, rfl⟩
   · have := hsh hz; rw [h, hn] at this; cases this
 · refine (Any.strconv_Atoi_syntax Tryz.laysC172 E (by omega) h _ w h1 (.inr ⟨te, pe, rfl⟩)).mono ?_;rintro e w' ⟨N, rfl, _, _, hb⟩;refine ⟨0, _, rfl, hb, fun hz => ⟨fun n hn => ?_, fun hn => ⟨_, _, rfl⟩⟩⟩;have := hsh hz; rw [h, hn] at this; cases this
 · refine (Any.strconv_Atoi_range Tryz.laysC172 E (by omega) h _ w h2 (.inr ⟨te2, pe2, rfl⟩)).mono ?_;rintro e w' ⟨N, rfl, _, _, hb⟩;refine ⟨_, _, rfl, hb, fun hz => ⟨fun n hn => ?_, fun hn => ⟨_, _, rfl⟩⟩⟩;have := hsh hz; rw [h, hn] at this; cases this
theorem refS_E (en : Nat) (st : St) : (rdS (yqc en st)).E ≠ 0 := by
 unfold yqc xjp
 split
 · exact fun e => by cases e
 · rename_i h; exact h
set_option maxRecDepth 100000 in
theorem yw2 (h : RdW w B q en L st) (k most : Nat) (hk : k ≤ 3) :
 Calls Tryz.prog 115 #[.pointer (some ⟨q, 0, none⟩), .int .i64 (k : Int), .int .i64 (most : Int)] w fun x w' => ∃ N : Int, x = .returned (.int .i64 N) ∧ ((yqp en k most st).E = 0 → N = ((yzc k st).getD 0 : Nat)) ∧ RdW w' B q en L (yqp en k most st) ∧ w.grownBy w' (some q) ∧ C8 q w w' := by
 obtain ⟨⟨kd, t, a⟩, hp⟩ : ∃ t, t = pkS st := ⟨_, rfl⟩;have hF := h.pk;rw [← hp] at hF;replace hp := hid hp.symm;obtain ⟨hF1, hF2, hF3⟩ := hF;dsimp only at hF1 hF2 hF3;have hbt : bytesOf (strOf t) = t := xqk hF1;have hsz := xqh t;have HV : Hid (yzc k st = if kd = 2 then xvk t k else Option.none) := by show _ = _; unfold yzc; rw [hp.out]
 generalize hT : strOf t = T at hbt hsz;have HT := hid hT;have hs5 : T.size ≤ 5000 := by omega
 have HBt := hid hbt;have HSz := hid hsz;have HU := hid (yvg (kd : Int) T (a : Int));have HF3 := hid hF3;have Hs5 := hid hs5;have Hk := hid hk;have H0 := hid h;have Hq0 := hid h.lt;clear h hT hbt hsz hF1 hF2 hF3 hs5 hk;go_enter Tryz.func115, Tryz.ntmps115;go_wp2_with fail
 refine (xjy H0.out hp.out).mono ?_;rintro e w2 ⟨rfl, bn⟩;rw [HT.out];have b2 := xqa bn (xqc w2 (.cells #[.int .i64 (kd : Int), .string T, .int .i64 (a : Int)] 109));have HR := xqd w2 109 #[.int .i64 (kd : Int), .string T, .int .i64 (a : Int)];have H2 := hid (H0.out.below b2);have HB2 := hid b2;have k1 := HR.cell (k := 1) (v := .string T) rfl;have HR := hid HR;clear bn b2;go_wp2_with (refine xqg (by rfl) _ _ _ (by rfl) _ _ _ (by rfl) (by rfl) (by assumption) ?_; generalize w2.alloc (.cells #[.int .i64 (kd : Int), .string T, .int .i64 (a : Int)] 109) = w3 at *);obtain ⟨gb, hgb⟩ : ∃ g, g = w2.heap.size := ⟨_, rfl⟩;rw [← hgb] at HR k1 ⊢;clear hgb;refine (pAtoi_c T Hs5.out w3 H2.out.tabs.2.2).mono ?_;rintro e w4 ⟨N, v, rfl, bn, hat⟩;have HA := hid hat;have H4 := hid (H2.out.below bn);have HB4 := hid (xqa HB2.out bn);have HR4 := HR.out.below bn;have k0 := HR4.cell (k := 0) (v := .int .i64 (kd : Int)) rfl;have k1 := HR4.cell (k := 1) (v := .string T) rfl;have k2 := HR4.cell (k := 2) (v := .int .i64 (a : Int)) rfl;clear bn hat H2 HB2 HR HR4;by_cases h2 : kd = 2
 · have e2 : ((kd : Int) != 2) = false := by rw [h2]; rfl
   by_cases h3 : k < t.length
   · have e3 : (k : Int) < (T.size : Int) := by have := HSz.out; omega
     have HN : Hid (yzc k st = Option.none) := by
      show _ = _;rw [HV.out, if_pos h2];exact if_neg (fun hh => by have := hh.2.2; omega)
     clear h2 h3;go_wp2_with fail
     refine (yz6 H4.out).mono ?_;rintro e w5 ⟨rfl, h5, hg, h8⟩;have C5 := hid ((C8.below HB4.out Hq0.out).trans h8);have H5 := hid h5;have G5 := hid (gr_trans (xjb HB4.out (some q)) hg);clear h5 hg k0 k1 k2;go_wp2_with fail
     refine (yja H5.out).mono ?_;rintro e w6 ⟨rfl, h6, hg, h8⟩;have C6 := hid (C5.out.trans h8);have H6 := hid h6;have G6 := hid (gr_trans G5.out hg);clear h6 hg;go_wp2
     go_ret
     have hst : yqp en k most st = rdS (yqc en st) := by unfold yqp smlP; rw [HN.out]
     refine ⟨_, rfl, fun e => ?_, by rw [hst]; exact H6.out, G6.out, C6.out⟩;rw [hst] at e;exact absurd e (refS_E en st)
   · have e3 : ¬ (k : Int) < (T.size : Int) := by have := HSz.out; omega
     have h18 : T.size ≤ 18 := by have := HSz.out; have := Hk.out; omega
     obtain ⟨c, r, hcr, hc⟩ := HF3.out h2;have hat := atoi_hd HBt.out hcr hc;obtain ⟨ha1, ha2⟩ := HA.out h18;by_cases had : t.all xq2 = true
     · rw [if_pos had] at hat;obtain ⟨rfl, rfl⟩ := ha1 _ hat;have HN : Hid (yzc k st = some (digV t)) := by
        show _ = _;rw [HV.out, if_pos h2];exact if_pos ⟨had, by rw [hcr]; simp, by omega⟩
       clear ha1 ha2 had hat hcr hc h3 h2 h18;generalize digV t = n at *;by_cases hm : most < n
       · have e4 : (most : Int) < (n : Int) := by omega
         have Hm := hid hm;clear hm;go_wp2_with fail
         refine (pFail_8 H4.out 2 (a : Int) (by decide)).mono ?_;rintro e w5 ⟨rfl, h5, hg, h8⟩;have C5 := hid ((C8.below HB4.out Hq0.out).trans h8);have H5 := hid h5;have G5 := hid (gr_trans (xjb HB4.out (some q)) hg);clear h5 hg k0 k1 k2;go_wp2_with fail
         refine (yja H5.out).mono ?_;rintro e w6 ⟨rfl, h6, hg, h8⟩;have C6 := hid (C5.out.trans h8);have H6 := hid h6;have G6 := hid (gr_trans G5.out hg);clear h6 hg;go_wp2
         go_ret
         have hst : yqp en k most st = rdS (xjp 2 (a : Int) st) := by unfold yqp smlP; rw [HN.out, hp.out]; show rdS (if most < n then _ else _) = _; rw [if_pos Hm.out]
         refine ⟨_, rfl, fun e => ?_, by rw [hst]; exact H6.out, G6.out, C6.out⟩;rw [HN.out]; rfl
       · have e4 : ¬ (most : Int) < (n : Int) := by omega
         have Hm := hid hm;have G4 := hid (xjb HB4.out (some q));have C4 := hid (C8.below HB4.out Hq0.out);clear hm;go_wp2_with fail
         refine (yja H4.out).mono ?_;rintro e w6 ⟨rfl, h6, hg, h8⟩;have C6 := hid (C4.out.trans h8);have H6 := hid h6;have G6 := hid (gr_trans G4.out hg);clear h6 hg;go_wp2
         go_ret
         have hst : yqp en k most st = rdS st := by unfold yqp smlP; rw [HN.out]; show rdS (if most < n then _ else _) = _; rw [if_neg Hm.out]
         refine ⟨_, rfl, fun e => ?_, by rw [hst]; exact H6.out, G6.out, C6.out⟩;rw [HN.out]; rfl
     · rw [if_neg had] at hat;obtain ⟨ti, pi, rfl⟩ := ha2 hat;have HN : Hid (yzc k st = Option.none) := by
        show _ = _;rw [HV.out, if_pos h2];exact if_neg (fun hh => had hh.1)
       clear ha1 ha2 had hat hcr hc h3 h2 h18;go_wp2_with fail
       refine (yz6 H4.out).mono ?_;rintro e w5 ⟨rfl, h5, hg, h8⟩;have C5 := hid ((C8.below HB4.out Hq0.out).trans h8);have H5 := hid h5;have G5 := hid (gr_trans (xjb HB4.out (some q)) hg);clear h5 hg k0 k1 k2;go_wp2_with fail
       refine (yja H5.out).mono ?_;rintro e w6 ⟨rfl, h6, hg, h8⟩;have C6 := hid (C5.out.trans h8);have H6 := hid h6;have G6 := hid (gr_trans G5.out hg);clear h6 hg;go_wp2
       go_ret
       have hst : yqp en k most st = rdS (yqc en st) := by unfold yqp smlP; rw [HN.out]
       refine ⟨_, rfl, fun e => ?_, by rw [hst]; exact H6.out, G6.out, C6.out⟩;rw [hst] at e;exact absurd e (refS_E en st)
 · have e2 : ((kd : Int) != 2) = true := by simp; omega
   have HN : Hid (yzc k st = Option.none) := by show _ = _; rw [HV.out, if_neg h2]
   clear h2;go_wp2_with fail
   refine (yz6 H4.out).mono ?_;rintro e w5 ⟨rfl, h5, hg, h8⟩;have C5 := hid ((C8.below HB4.out Hq0.out).trans h8);have H5 := hid h5;have G5 := hid (gr_trans (xjb HB4.out (some q)) hg);clear h5 hg k0 k1 k2;go_wp2_with fail
   refine (yja H5.out).mono ?_;rintro e w6 ⟨rfl, h6, hg, h8⟩;have C6 := hid (C5.out.trans h8);have H6 := hid h6;have G6 := hid (gr_trans G5.out hg);clear h6 hg;go_wp2
   go_ret
   have hst : yqp en k most st = rdS (yqc en st) := by unfold yqp smlP; rw [HN.out]
   refine ⟨_, rfl, fun e => ?_, by rw [hst]; exact H6.out, G6.out, C6.out⟩;rw [hst] at e;exact absurd e (refS_E en st)
end
section
variable {w : World} {B q en : Nat} {L : Lim} {st : St}
def CaR (B q en : Nat) (L : Lim) (j : Nat) (st1 : St) (i : Nat) (wx wy : World) : Prop := if i = j then RdW wy B q en L st1 ∧ Kn B q wx wy else Below wx.heap.size wx wy
theorem CaR.of {B q en : Nat} {L : Lim} {j : Nat} {st1 : St} {i : Nat} {wx wy : World} (h : Below wx.heap.size wx wy) (hi : i ≠ j) : CaR B q en L j st1 i wx wy := by unfold CaR; rw [if_neg hi]; exact h
theorem CaR.at {B q en : Nat} {L : Lim} {j : Nat} {st1 : St} {wx wy : World} (h : RdW wy B q en L st1) (k : Kn B q wx wy) : CaR B q en L j st1 j wx wy := by unfold CaR; rw [if_pos rfl]; exact ⟨h, k⟩
theorem CaR.kn {B q en : Nat} {L : Lim} {j : Nat} {st1 : St} {i : Nat} {wx wy : World} (h : CaR B q en L j st1 i wx wy) : Kn B q wx wy := by
 unfold CaR at h
 split at h
 · exact h.2
 · exact Kn.below h
def CaS (wS : World) (B q en : Nat) (L : Lim) (j : Nat) (st st1 : St) (gb : Nat) (U : Array Value) (l : Nat → Bool) (wx : World) : Prop :=
 RowA wx gb 109 U ∧ Kn B q wS wx ∧ (l j = false → RdW wx B q en L st) ∧ (l j = true → RdW wx B q en L st1)
theorem CaS.step {wS : World} {B q en : Nat} {L : Lim} {j : Nat} {st st1 : St} {gb : Nat} {U : Array Value} {l : Nat → Bool} {i : Nat} {wx wy : World} (hne : gb ≠ q) (hl : l i = false) (hR : CaR B q en L j st1 i wx wy) (h : CaS wS B q en L j st st1 gb U l wx) :
 CaS wS B q en L j st st1 gb U (fun k => if k = i then true else l k) wy := by
 obtain ⟨h1, h2, h3, h4⟩ := h;have hk := hR.kn;refine ⟨hk.row h1 hne (by decide), h2.trans hk, fun e => ?_, fun e => ?_⟩
 · dsimp only at e;by_cases hi : j = i
   · rw [if_pos hi] at e; cases e
   · rw [if_neg hi] at e;unfold CaR at hR;rw [if_neg (Ne.symm hi)] at hR;exact (h3 e).below hR
 · dsimp only at e;by_cases hi : j = i
   · unfold CaR at hR;rw [if_pos hi.symm] at hR;exact hR.1
   · rw [if_neg hi] at e;unfold CaR at hR;rw [if_neg (Ne.symm hi)] at hR;exact (h4 e).below hR
theorem rdw_any {wS w : World} {B q en : Nat} {L : Lim} {j : Nat} {st : St} {gb : Nat} {U : Array Value} {l : Nat → Bool} (h : CaS wS B q en L j st st gb U l w) : RdW w B q en L st := by
 cases e : l j with
 | false => exact h.2.2.1 e
 | true => exact h.2.2.2 e
set_option maxRecDepth 100000 in
theorem pJoin_c (h : RdW w B q en L st) (hB : B ≤ w.heap.size) (F : Nat) (hcall : ∀ args w, (callFunc F args).run Tryz.prog w = .ok (.enter F args) w) (fS : St → St) (hF0 : ∀ w1, RdW w1 B q en L (rdS st) → B ≤ w1.heap.size → Calls Tryz.prog F #[.pointer (some ⟨q, 0, none⟩)] w1 fun e w' => e = .returned (.tuple #[]) ∧ RdW w' B q en L (fS (rdS st)) ∧ Kn B q w1 w') (hfit : (fS (rdS st)).ts.length ≤ 1000000 ∧ (fS (rdS st)).mad ≤ 1000000) :
 Calls Tryz.prog 117 #[.pointer (some ⟨q, 0, none⟩), .func (.func F) #[.pointer (some ⟨q, 0, none⟩)] #[]] w fun x w' => x = .returned (.tuple #[]) ∧ RdW w' B q en L (yzv L fS st) ∧ Kn B q w w' := by
 have hF := h.pk;obtain ⟨⟨k, t, a⟩, hp⟩ : ∃ t, t = pkS st := ⟨_, rfl⟩;rw [← hp] at hF;replace hp := hid hp.symm;have hbt := hid hF.1;have H0 := hid h;have HBw := hid hB;have HU := hid (yvg (k : Int) (strOf t) (a : Int));have hq0 := hid h.lt;have HFS := hid hF0;have HFi := hid hfit;clear h hB hF hF0 hfit;go_enter Tryz.func117, Tryz.ntmps117;go_wp2_with fail
 refine (pLast_c H0.out).mono ?_;rintro e w1 ⟨rfl, rfl⟩;go_wp2_with fail
 refine (pRead_t H0.out hp.out).mono ?_;rintro e w2 ⟨rfl, h2, hg⟩;have bx := xqc w2 (.cells #[.int .i64 (k : Int), .string (strOf t), .int .i64 (a : Int)] 109);have H2 := hid (h2.below bx);have K2 := hid ((Kn.of (B := B) hg).trans (Kn.below bx));have HX2 := hid (xqd w2 109 #[.int .i64 (k : Int), .string (strOf t), .int .i64 (a : Int)]);have hgq : Hid (w2.heap.size ≠ q) := by show _ ≠ _; have := h2.lt; omega
 clear h2 hg bx;go_wp2_with (refine xqg (by rfl) _ _ _ (by rfl) _ _ _ (by rfl) (by rfl) (by assumption) ?_);generalize w2.alloc (.cells #[.int .i64 (k : Int), .string (strOf t), .int .i64 (a : Int)] 109) = w3 at *;obtain ⟨gb, hgb⟩ : ∃ g, g = w2.heap.size := ⟨_, rfl⟩;rw [← hgb] at hgq HX2 ⊢;clear hgb;go_wp2_with (go_at_fn F; refine (HFS.out w3 H2.out (Nat.le_trans HBw.out K2.out.size)).mono ?_; rintro e wS ⟨rfl, h4, k4⟩);have HS := hid h4;have HK0 := hid (K2.out.trans k4);have HX := hid (k4.row HX2.out hgq.out (by decide));clear h4 k4 H2 K2 HX2 HFS;go_wp2_with fail
 refine xwv 10 1 6 [some 12, some 13, some 14, some 15, some 16, some 17, some 18, some 19, some 20, some 21] ?aFq (CaR B q en L 100 (fS (rdS st))) (CaS wS B q en L 100 (fS (rdS st)) (fS (rdS st)) gb (#[.int .i64 (k : Int), .string (strOf t), .int .i64 (a : Int)])) (fun k vv wx => match k with
  | 0 => vv = .pointer (some ⟨q, 0, none⟩)
  | 1 => vv = .pointer (some ⟨gb, 1, none⟩)
  | 2 => vv = .string (strOf t)
  | 3 => vv = .int .i64 (joiN t)
  | 4 => vv = .int .i64 (xjc st)
  | 5 => vv = .pointer (some ⟨q, 0, none⟩)
  | 6 => vv = .int .i64 (xjc (fS (rdS st)))
  | 7 => vv = .pointer (some ⟨gb, 2, none⟩)
  | 8 => vv = .int .i64 (a : Int)
  | _ => vv = .agg (ndC (joiN t) (xjc st) (xjc (fS (rdS st))) 0 ⟨#[]⟩ ⟨#[]⟩ (a : Int)))
  (by kernel_rfl) ?haFq rfl (by kernel_rfl) (by kernel_rfl) (fun _ _ _ _ _ h => h) ?hSbq ?hPbq ?hSq ?hopq ?hfinq
 case haFq =>
  intro vals;simp only [xqx, dAt, Act.put, List.setIfInBounds_toArray, List.set_cons_zero, List.set_cons_succ];exact rfl
 case hSbq => exact fun i l wx wy hi hl hR h => CaS.step hgq.out hl hR h
 case hPbq =>
  intro k j v wa wb hk hkj hb h
  match j, h with
  | 0, h => exact h
  | 1, h => exact h
  | 2, h => exact h
  | 3, h => exact h
  | 4, h => exact h
  | 5, h => exact h
  | 6, h => exact h
  | 7, h => exact h
  | 8, h => exact h
  | _ + 9, h => exact h
 case hSq => exact ⟨HX.out.drew, Kn.below (Below.refl _ _).drew, fun _ => HS.out.below (Below.refl _ _).drew, fun e => by cases e⟩
 case hopq =>
  refine .cons (k := 0) ?_ (.cons (k := 1) ?_ (.cons (k := 2) ?_ (.cons (k := 3) ?_ (.cons (k := 4) ?_ (.cons (k := 5) ?_ (.cons (k := 6) ?_ (.cons (k := 7) ?_ (.cons (k := 8) ?_ (.cons (k := 9) ?_ (.nil))))))))))
  all_goals intro vals wr l hl hS hd KC hKx
  all_goals (show Oper.wp _ _ _ _ _ _; dsimp only)
  · go_simp;refine hKx _ _ rfl (CaR.of (Below.refl _ _) (by decide)) (by first | rfl | simp)
  · go_simp;refine hKx _ _ rfl (CaR.of (Below.refl _ _) (by decide)) (by first | rfl | simp)
  · have d1 : vals 1 = _ := hd 1 (by decide +kernel);rw [d1];have z0 := hS.1.cell (k := 1) (v := .string (strOf t)) rfl;go_simp;refine hKx _ _ rfl (CaR.of (Below.refl _ _) (by decide)) (by first | rfl | simp)
  · have d2 : vals 2 = _ := hd 2 (by decide +kernel);rw [d2];have HSx := hid hS;clear hS;go_simp;go_at_call 145
    refine (pJoinKind_c t hbt.out _).mono ?_;rintro e w9 ⟨rfl, rfl⟩;refine hKx _ _ rfl (CaR.of (Below.refl _ _) (by decide)) rfl
  · go_simp;refine hKx _ _ rfl (CaR.of (Below.refl _ _) (by decide)) (by first | rfl | simp)
  · go_simp;refine hKx _ _ rfl (CaR.of (Below.refl _ _) (by decide)) (by first | rfl | simp)
  · have d5 : vals 5 = _ := hd 5 (by decide +kernel);rw [d5];have HSx := hid hS;clear hS;go_simp;go_at_call 143
    refine (pLast_c (rdw_any HSx.out)).mono ?_;rintro e w9 ⟨rfl, rfl⟩;refine hKx _ _ rfl (CaR.of (Below.refl _ _) (by decide)) rfl
  · go_simp;refine hKx _ _ rfl (CaR.of (Below.refl _ _) (by decide)) (by first | rfl | simp)
  · have d7 : vals 7 = _ := hd 7 (by decide +kernel);rw [d7];have z0 := hS.1.cell (k := 2) (v := .int .i64 (a : Int)) rfl;go_simp;refine hKx _ _ rfl (CaR.of (Below.refl _ _) (by decide)) (by first | rfl | simp)
  · have d3 : vals 3 = _ := hd 3 (by decide +kernel);have d4 : vals 4 = _ := hd 4 (by decide +kernel);have d6 : vals 6 = _ := hd 6 (by decide +kernel);have d8 : vals 8 = _ := hd 8 (by decide +kernel);rw [d3, d4, d6, d8];refine xw9 _ _ rfl _ (by rfl) _ (hid (fun W => by kernel_rfl : ∀ W, (Instr.build 51 ([(0, .int .i64 (joiN t)), (1, .int .i64 (xjc st)), (2, .int .i64 (xjc (fS (rdS st)))), (6, .int .i64 (a : Int))] : List (Nat × Value)).toArray).run Tryz.prog W = .ok (.agg (ndC (joiN t) (xjc st) (xjc (fS (rdS st))) 0 ⟨#[]⟩ ⟨#[]⟩ (a : Int))) W)) ?_;refine hKx _ _ rfl (CaR.of (Below.refl _ _) (by decide)) (by first | rfl | simp)
 case hfinq =>
  intro vals wr l hl hS hP;have ez_0 : vals 0 = _ := hP 0 (by decide);have ez_9 : vals 9 = _ := hP 9 (by decide);have HSe : Hid (RdW wr B q en L (fS (rdS st))) := by
   cases hj : l 100 with
   | false => exact hS.2.2.1 hj
   | true => exact hS.2.2.2 hj
  have HKe := hid (HK0.out.trans hS.2.1);have hBe := hid (Nat.le_trans HBw.out HKe.out.size);clear hS hP hl
  try dsimp only
  rw [ez_0, ez_9];clear ez_0 ez_9;refine wpAny_ready (rs := [10]) (by kernel_rfl) (by simp) (AllReady.cons rfl (fun KC hKC => ?_) AllReady.nil);go_simp;go_at_call 144
  refine (yv0 HSe.out hBe.out HFi.out ⟨joiN t, xjc st, xjc (fS (rdS st)), 0, ⟨#[]⟩, ⟨#[]⟩, (a : Int)⟩ _ rfl (fun _ => rfl)).mono ?_;rintro e wN ⟨rfl, h9, k9⟩;have HF := hid h9;have HKf := hid (HKe.out.trans k9);refine hKC _ _ ?_;clear hKC KC h9 k9 HSe HKe hBe;refine wpAny_done (by kernel_rfl) ?_ _;go_wp2
  go_end0
  have hst : yzv L fS st = zqt L ⟨joiN t, xjc st, xjc (fS (rdS st)), 0, ⟨#[]⟩, ⟨#[]⟩, (a : Int)⟩ (fS (rdS st)) := by unfold yzv; rw [hp.out]
  rw [hst];exact ⟨rfl, HF.out, HKf.out⟩
end
section
variable {w : World} {B q en : Nat} {L : Lim} {st : St}
theorem yzq (e p : Int) (st : St) : (xjp e p st).ts = st.ts ∧ (xjp e p st).mad = st.mad ∧ (xjp e p st).op = st.op := by
 unfold xjp
 split
 · exact ⟨rfl, rfl, rfl⟩
 · exact ⟨rfl, rfl, rfl⟩
theorem need_tm (en : Nat) (b : Bool) (st : St) : (xv3 en b st).ts = st.ts ∧ (xv3 en b st).mad = st.mad ∧ (xv3 en b st).op = st.op := by
 unfold xv3
 split
 · exact ⟨rfl, rfl, rfl⟩
 · exact yzq _ _ _
theorem tak_tm (en kd : Nat) (st : St) : (xwp en kd st).ts = st.ts ∧ (xwp en kd st).mad = st.mad ∧ (xwp en kd st).op = st.op := need_tm _ _ _
theorem unt_tm (en : Nat) (st : St) : (yvw en st).ts = st.ts ∧ (yvw en st).mad = st.mad ∧ (yvw en st).op = st.op := by
 unfold yvw
 split
 · exact tak_tm _ _ _
 · exact ⟨rfl, rfl, rfl⟩
theorem nam_tm (en : Nat) (st : St) : (yj2 en st).ts = st.ts ∧ (yj2 en st).mad = st.mad ∧ (yj2 en st).op = st.op := by
 have h := tak_tm en 1 (namP en st);have k := need_tm en (xjn (pkS st).2.1) st;exact ⟨h.1.trans k.1, h.2.1.trans k.2.1, h.2.2.trans k.2.2⟩
theorem sgn_tm (en : Nat) (tx : List Nat) (st : St) : (xvi en tx st).ts = st.ts ∧ (xvi en tx st).mad = st.mad ∧ (xvi en tx st).op = st.op := need_tm _ _ _
theorem sml_tm (en k most : Nat) (st : St) : (yqp en k most st).ts = st.ts ∧ (yqp en k most st).mad = st.mad ∧ (yqp en k most st).op = st.op := by
 unfold yqp smlP
 split
 · exact yzq _ _ _
 · split
   · exact yzq _ _ _
   · exact ⟨rfl, rfl, rfl⟩
set_option maxRecDepth 100000 in
theorem pAtom_c (h : RdW w B q en L st) (hB : B ≤ w.heap.size) (hop : st.op ≤ 1000) (fS : St → St) (hF0 : xqp 3 [40] st.l = true → ∀ w1, RdW w1 B q en L (xz1 L st) → B ≤ w1.heap.size → Calls Tryz.prog 79 #[.pointer (some ⟨q, 0, none⟩)] w1 fun e w' => e = .returned (.tuple #[]) ∧ RdW w' B q en L (fS (xz1 L st)) ∧ Kn B q w1 w') (hop1 : xqp 3 [40] st.l = true → (fS (xz1 L st)).op = st.op + 1) (hfit : st.ts.length ≤ 1000000 ∧ st.mad ≤ 1000000) :
 Calls Tryz.prog 161 #[.pointer (some ⟨q, 0, none⟩)] w fun x w' => x = .returned (.tuple #[]) ∧ RdW w' B q en L (ywt L en fS st) ∧ Kn B q w w' := by
 have hF := h.pk;obtain ⟨⟨k, t, a⟩, hp⟩ : ∃ t, t = pkS st := ⟨_, rfl⟩;rw [← hp] at hF;replace hp := hid hp.symm;have hbt := hid hF.1;have H0 := hid h;have HBw := hid hB;have HU := hid (yvg (k : Int) (strOf t) (a : Int));have HFS := hid hF0;have HFi := hid hfit;have Hop := hid hop;have Hop1 := hid hop1;clear h hB hF hF0 hfit hop hop1;go_enter Tryz.func161, Tryz.ntmps161;go_wp2_with fail
 refine (xjy H0.out hp.out).mono ?_;rintro e w2 ⟨rfl, bn⟩;have h2 := H0.out.below bn;have bx := xqc w2 (.cells #[.int .i64 (k : Int), .string (strOf t), .int .i64 (a : Int)] 109);have H2 := hid (h2.below bx);have K2 := hid ((Kn.below (B := B) (q := q) bn).trans (Kn.below bx));have hX2 := xqd w2 109 #[.int .i64 (k : Int), .string (strOf t), .int .i64 (a : Int)];have hgq : Hid (w2.heap.size ≠ q) := by show _ ≠ _; have := h2.lt; omega
 have k0 := hX2.cell (k := 0) (v := .int .i64 (k : Int)) rfl;have HX2 := hid hX2;clear h2 bn bx hX2;by_cases hk : k = 2
 · have e1 : ((k : Int) == 2) = true := by rw [hk]; rfl
   have hk2 : Hid ((pkS st).1 = 2) := by show _ = _; rw [hp.out]; exact hk
   clear hk;go_wp2_with (refine xqg (by rfl) _ _ _ (by rfl) _ _ _ (by rfl) (by rfl) (by assumption) ?_; generalize w2.alloc (.cells #[.int .i64 (k : Int), .string (strOf t), .int .i64 (a : Int)] 109) = w3 at *);obtain ⟨gb, hgb⟩ : ∃ g, g = w2.heap.size := ⟨_, rfl⟩;rw [← hgb] at hgq HX2 ⊢;clear hgb k0 HU;refine (xwa H2.out).mono ?_;rintro e wS ⟨rfl, h4, hg⟩;have HS := hid h4;have HK0 := hid (K2.out.trans (Kn.of (B := B) hg));have HX := hid (HX2.out.grown hg (fun e => hgq.out (by injection e with e; exact e.symm)));clear h4 hg H2 K2 HX2 HFS;go_wp2_with fail
   refine xwv 8 1 6 [some 18, some 19, some 20, some 21, some 22, some 23, some 24, some 25] ?aFqa (CaR B q en L 4 (yvw en (rdS st))) (CaS wS B q en L 4 (rdS st) (yvw en (rdS st)) gb (#[.int .i64 (k : Int), .string (strOf t), .int .i64 (a : Int)])) (fun k vv wx => match k with
    | 0 => vv = .pointer (some ⟨q, 0, none⟩)
    | 1 => vv = .pointer (some ⟨gb, 1, none⟩)
    | 2 => vv = .string (strOf t)
    | 3 => vv = .pointer (some ⟨q, 0, none⟩)
    | 4 => vv = .string (strOf (untX en (rdS st)))
    | 5 => vv = .pointer (some ⟨gb, 2, none⟩)
    | 6 => vv = .int .i64 (a : Int)
    | _ => vv = .agg (ndC 1 0 0 0 (strOf t) (strOf (untX en (rdS st))) (a : Int)))
    (by kernel_rfl) ?haFqa rfl (by kernel_rfl) (by kernel_rfl) (fun _ _ _ _ _ h => h) ?hSbqa ?hPbqa ?hSqa ?hopqa ?hfinqa
   case haFqa =>
    intro vals;simp only [xqx, dAt, Act.put, List.setIfInBounds_toArray, List.set_cons_zero, List.set_cons_succ];exact rfl
   case hSbqa => exact fun i l wx wy hi hl hR h => CaS.step hgq.out hl hR h
   case hPbqa =>
    intro k j v wa wb hk hkj hb h
    match j, h with
    | 0, h => exact h
    | 1, h => exact h
    | 2, h => exact h
    | 3, h => exact h
    | 4, h => exact h
    | 5, h => exact h
    | 6, h => exact h
    | _ + 7, h => exact h
   case hSqa => exact ⟨HX.out.drew, Kn.below (Below.refl _ _).drew, fun _ => HS.out.below (Below.refl _ _).drew, fun e => by cases e⟩
   case hopqa =>
    refine .cons (k := 0) ?_ (.cons (k := 1) ?_ (.cons (k := 2) ?_ (.cons (k := 3) ?_ (.cons (k := 4) ?_ (.cons (k := 5) ?_ (.cons (k := 6) ?_ (.cons (k := 7) ?_ (.nil))))))))
    all_goals intro vals wr l hl hS hd KC hKx
    all_goals (show Oper.wp _ _ _ _ _ _; dsimp only)
    · go_simp;refine hKx _ _ rfl (CaR.of (Below.refl _ _) (by decide)) (by first | rfl | simp)
    · go_simp;refine hKx _ _ rfl (CaR.of (Below.refl _ _) (by decide)) (by first | rfl | simp)
    · have d1 : vals 1 = _ := hd 1 (by decide +kernel);rw [d1];have z0 := hS.1.cell (k := 1) (v := .string (strOf t)) rfl;go_simp;refine hKx _ _ rfl (CaR.of (Below.refl _ _) (by decide)) (by first | rfl | simp)
    · go_simp;refine hKx _ _ rfl (CaR.of (Below.refl _ _) (by decide)) (by first | rfl | simp)
    · have d3 : vals 3 = _ := hd 3 (by decide +kernel);rw [d3];have HSx := hid (hS.2.2.1 hl);go_simp;go_at_call 114
      refine (pUnits_c HSx.out).mono ?_;rintro e w9 ⟨rfl, h9, hg9⟩;refine hKx _ _ rfl (CaR.at h9 (Kn.of hg9)) rfl
    · go_simp;refine hKx _ _ rfl (CaR.of (Below.refl _ _) (by decide)) (by first | rfl | simp)
    · have d5 : vals 5 = _ := hd 5 (by decide +kernel);rw [d5];have z0 := hS.1.cell (k := 2) (v := .int .i64 (a : Int)) rfl;go_simp;refine hKx _ _ rfl (CaR.of (Below.refl _ _) (by decide)) (by first | rfl | simp)
    · have d2 : vals 2 = _ := hd 2 (by decide +kernel);have d4 : vals 4 = _ := hd 4 (by decide +kernel);have d6 : vals 6 = _ := hd 6 (by decide +kernel);rw [d2, d4, d6];refine xw9 _ _ rfl _ (by rfl) _ (hid (fun W => by kernel_rfl : ∀ W, (Instr.build 51 ([(0, .int .i64 1), (4, .string (strOf t)), (5, .string (strOf (untX en (rdS st)))), (6, .int .i64 (a : Int))] : List (Nat × Value)).toArray).run Tryz.prog W = .ok (.agg (ndC 1 0 0 0 (strOf t) (strOf (untX en (rdS st))) (a : Int))) W)) ?_;refine hKx _ _ rfl (CaR.of (Below.refl _ _) (by decide)) (by first | rfl | simp)
   case hfinqa =>
    intro vals wr l hl hS hP;have ez_0 : vals 0 = _ := hP 0 (by decide);have ez_7 : vals 7 = _ := hP 7 (by decide);have HSe := hid (hS.2.2.2 (hl 4 (by decide)));have HKe := hid (HK0.out.trans hS.2.1);have hBe := hid (Nat.le_trans HBw.out HKe.out.size);clear hS hP hl
    try dsimp only
    rw [ez_0, ez_7];clear ez_0 ez_7;refine wpAny_ready (rs := [8]) (by kernel_rfl) (by simp) (AllReady.cons rfl (fun KC hKC => ?_) AllReady.nil);go_simp;go_at_call 144
    refine (yv0 HSe.out hBe.out (by rw [(unt_tm en (rdS st)).1, (unt_tm en (rdS st)).2.1]; exact HFi.out) ⟨1, 0, 0, 0, strOf t, strOf (untX en (rdS st)), (a : Int)⟩ _ rfl (fun _ => rfl)).mono ?_;rintro e wN ⟨rfl, h9, k9⟩;have HF := hid h9;have HKf := hid (HKe.out.trans k9);refine hKC _ _ ?_;clear hKC KC h9 k9 HSe HKe hBe;refine wpAny_done (by kernel_rfl) ?_ _;go_wp2
    go_end0
    have hst : ywt L en fS st = zqt L ⟨1, 0, 0, 0, strOf t, strOf (untX en (rdS st)), (a : Int)⟩ (yvw en (rdS st)) := by unfold ywt; rw [if_pos hk2.out, hp.out]
    rw [hst];exact ⟨rfl, HF.out, HKf.out⟩
 · have e1 : ((k : Int) == 2) = false := by rw [beq_eq_false_iff_ne]; omega
   have hk2 : Hid (¬ (pkS st).1 = 2) := by show ¬ _; rw [hp.out]; exact hk
   clear hk;cases hs : xqp 3 [40] st.l with
   | true =>
    have Hs := hid hs;clear hs;go_wp2_with (refine xqg (by rfl) _ _ _ (by rfl) _ _ _ (by rfl) (by rfl) (by assumption) ?_; generalize w2.alloc (.cells #[.int .i64 (k : Int), .string (strOf t), .int .i64 (a : Int)] 109) = w3 at *);obtain ⟨gb, hgb⟩ : ∃ g, g = w2.heap.size := ⟨_, rfl⟩;rw [← hgb] at hgq HX2 ⊢;clear hgb k0 HU;refine (xji H2.out 40 (by decide) _ Hs.out).mono ?_;rintro e w4 ⟨rfl, bn⟩;have H4 := hid (H2.out.below bn);have K4 := hid (K2.out.trans (Kn.below bn));clear bn H2 K2 HX2;go_wp2_with fail
    refine (pOpen_c H4.out Hop.out (Nat.le_trans HBw.out K4.out.size)).mono ?_;rintro e w5 ⟨rfl, h5, hg⟩;have H5 := hid h5;have K5 := hid (K4.out.trans (Kn.of (B := B) hg));clear h5 hg H4 K4;go_wp2_with fail
    refine (HFS.out Hs.out w5 H5.out (Nat.le_trans HBw.out K5.out.size)).mono ?_;rintro e w6 ⟨rfl, h6, hk6⟩;have H6 := hid h6;have K6 := hid (K5.out.trans hk6);clear h6 hk6 H5 K5;go_wp2_with fail
    refine (xvl H6.out 41 (by decide)).mono ?_;rintro e w7 ⟨rfl, h7, hg⟩;have H7 := hid h7;have K7 := hid (K6.out.trans (Kn.of (B := B) hg));clear h7 hg H6 K6;have hop2 : (xvi en [41] (fS (xz1 L st))).op = st.op + 1 := (sgn_tm en [41] _).2.2.trans (Hop1.out Hs.out);obtain ⟨k10, f10⟩ := H7.out.cell10;rw [hop2] at k10;have eop : ((st.op + 1 : Nat) : Int) - 1 = (st.op : Int) := by omega
    have hop6 : ((st.op + 1 : Nat) : Int) ≤ 1000000 := by have := Hop.out; omega
    have hop0 : (1 : Int) ≤ ((st.op + 1 : Nat) : Int) := by omega
    have HD := hid (H7.out.depth st.op);have KD := hid (K7.out.trans (Kn.of (B := B) (xqs w7 q 10 (.int .i64 (st.op : Int)))));have hst : Hid (ywt L en fS st = { xvi en [41] (fS (xz1 L st)) with op := st.op }) := by
     show _ = _;unfold ywt;rw [if_neg hk2.out, if_pos Hs.out];unfold shtS;rw [hop2]; rfl
    generalize ((st.op + 1 : Nat) : Int) = opz at *;go_wp2
    go_end0
    rw [hst.out];exact ⟨rfl, HD.out, KD.out⟩
   | false =>
    have Hs := hid hs;clear hs;go_wp2_with (refine xqg (by rfl) _ _ _ (by rfl) _ _ _ (by rfl) (by rfl) (by assumption) ?_; generalize w2.alloc (.cells #[.int .i64 (k : Int), .string (strOf t), .int .i64 (a : Int)] 109) = w3 at *);obtain ⟨gb, hgb⟩ : ∃ g, g = w2.heap.size := ⟨_, rfl⟩;rw [← hgb] at hgq HX2 ⊢;clear hgb k0 HU;refine (xji H2.out 40 (by decide) _ Hs.out).mono ?_;rintro e wS ⟨rfl, bn⟩;have HS := hid (H2.out.below bn);have HK0 := hid (K2.out.trans (Kn.below bn));have HX := hid (HX2.out.below bn);clear bn H2 K2 HX2 HFS;go_wp2_with fail
    refine xwv 6 1 6 [some 5, some 6, some 7, some 8, some 9, some 10] ?aFqb (CaR B q en L 2 (yj2 en st)) (CaS wS B q en L 2 (st) (yj2 en st) gb (#[.int .i64 (k : Int), .string (strOf t), .int .i64 (a : Int)])) (fun k vv wx => match k with
     | 0 => vv = .pointer (some ⟨q, 0, none⟩)
     | 1 => vv = .pointer (some ⟨q, 0, none⟩)
     | 2 => vv = .string (strOf (xqu en st))
     | 3 => vv = .pointer (some ⟨gb, 2, none⟩)
     | 4 => vv = .int .i64 (a : Int)
     | _ => vv = .agg (ndC 2 0 0 0 (strOf (xqu en st)) ⟨#[]⟩ (a : Int)))
     (by kernel_rfl) ?haFqb rfl (by kernel_rfl) (by kernel_rfl) (fun _ _ _ _ _ h => h) ?hSbqb ?hPbqb ?hSqb ?hopqb ?hfinqb
    case haFqb =>
     intro vals;simp only [xqx, dAt, Act.put, List.setIfInBounds_toArray, List.set_cons_zero, List.set_cons_succ];exact rfl
    case hSbqb => exact fun i l wx wy hi hl hR h => CaS.step hgq.out hl hR h
    case hPbqb =>
     intro k j v wa wb hk hkj hb h
     match j, h with
     | 0, h => exact h
     | 1, h => exact h
     | 2, h => exact h
     | 3, h => exact h
     | 4, h => exact h
     | _ + 5, h => exact h
    case hSqb => exact ⟨HX.out.drew, Kn.below (Below.refl _ _).drew, fun _ => HS.out.below (Below.refl _ _).drew, fun e => by cases e⟩
    case hopqb =>
     refine .cons (k := 0) ?_ (.cons (k := 1) ?_ (.cons (k := 2) ?_ (.cons (k := 3) ?_ (.cons (k := 4) ?_ (.cons (k := 5) ?_ (.nil))))))
     all_goals intro vals wr l hl hS hd KC hKx
     all_goals (show Oper.wp _ _ _ _ _ _; dsimp only)
     · go_simp;refine hKx _ _ rfl (CaR.of (Below.refl _ _) (by decide)) (by first | rfl | simp)
     · go_simp;refine hKx _ _ rfl (CaR.of (Below.refl _ _) (by decide)) (by first | rfl | simp)
     · have d1 : vals 1 = _ := hd 1 (by decide +kernel);rw [d1];have HSx := hid (hS.2.2.1 hl);go_simp;go_at_call 76
       refine (pName_c HSx.out).mono ?_;rintro e w9 ⟨rfl, h9, hg9⟩;refine hKx _ _ rfl (CaR.at h9 (Kn.of hg9)) rfl
     · go_simp;refine hKx _ _ rfl (CaR.of (Below.refl _ _) (by decide)) (by first | rfl | simp)
     · have d3 : vals 3 = _ := hd 3 (by decide +kernel);rw [d3];have z0 := hS.1.cell (k := 2) (v := .int .i64 (a : Int)) rfl;go_simp;refine hKx _ _ rfl (CaR.of (Below.refl _ _) (by decide)) (by first | rfl | simp)
     · have d2 : vals 2 = _ := hd 2 (by decide +kernel);have d4 : vals 4 = _ := hd 4 (by decide +kernel);rw [d2, d4];refine xw9 _ _ rfl _ (by rfl) _ (hid (fun W => by kernel_rfl : ∀ W, (Instr.build 51 ([(0, .int .i64 2), (4, .string (strOf (xqu en st))), (6, .int .i64 (a : Int))] : List (Nat × Value)).toArray).run Tryz.prog W = .ok (.agg (ndC 2 0 0 0 (strOf (xqu en st)) ⟨#[]⟩ (a : Int))) W)) ?_;refine hKx _ _ rfl (CaR.of (Below.refl _ _) (by decide)) (by first | rfl | simp)
    case hfinqb =>
     intro vals wr l hl hS hP;have ez_0 : vals 0 = _ := hP 0 (by decide);have ez_5 : vals 5 = _ := hP 5 (by decide);have HSe := hid (hS.2.2.2 (hl 2 (by decide)));have HKe := hid (HK0.out.trans hS.2.1);have hBe := hid (Nat.le_trans HBw.out HKe.out.size);clear hS hP hl
     try dsimp only
     rw [ez_0, ez_5];clear ez_0 ez_5;refine wpAny_ready (rs := [6]) (by kernel_rfl) (by simp) (AllReady.cons rfl (fun KC hKC => ?_) AllReady.nil);go_simp;go_at_call 144
     refine (yv0 HSe.out hBe.out (by rw [(nam_tm en st).1, (nam_tm en st).2.1]; exact HFi.out) ⟨2, 0, 0, 0, strOf (xqu en st), ⟨#[]⟩, (a : Int)⟩ _ rfl (fun _ => rfl)).mono ?_;rintro e wN ⟨rfl, h9, k9⟩;have HF := hid h9;have HKf := hid (HKe.out.trans k9);refine hKC _ _ ?_;clear hKC KC h9 k9 HSe HKe hBe;refine wpAny_done (by kernel_rfl) ?_ _;go_wp2
     go_end0
     have hst : ywt L en fS st = zqt L ⟨2, 0, 0, 0, strOf (xqu en st), ⟨#[]⟩, (a : Int)⟩ (yj2 en st) := by unfold ywt; rw [if_neg hk2.out, Hs.out, if_neg (by decide), hp.out]
     rw [hst];exact ⟨rfl, HF.out, HKf.out⟩
end
section
variable {w : World} {B q en : Nat} {L : Lim} {st : St}
theorem sml_le {en k most : Nat} {st : St} (h : (yqp en k most st).E = 0) : (yzc k st).getD 0 ≤ most := by
 unfold yqp smlP at h
 split at h
 · exact absurd h (refS_E en st)
 · rename_i v hv
   rw [hv]
   split at h
   · exfalso
     have h2 : (xjp 2 (pkS st).2.2 st).E = 0 := h;unfold xjp at h2
     split at h2
     · cases h2
     · rename_i h3; exact h3 h2
   · show v ≤ most; omega
theorem gr_new {w w' : World} {q g : Nat} (h : w.grownBy w' (some q)) (hg : w.heap.size ≤ g) (k : Nat) (v : Value) : w.grownBy (w'.setCell ⟨g, k, none⟩ v) (some q) :=
 ⟨h.os, h.tape, h.output, by simpa using h.size, fun i hi hr => (Below.heap_setCell w' _ v i (by simp; omega)).trans (h.block i hi hr)⟩
theorem RdW.setN (h : RdW w B q en L st) {g : Nat} {U : Array Value} (hr : RowA w g 51 U) (hne : g ≠ q) (hgB : B ≤ g) (h8 : ∀ C m d, w.cell? ⟨q, 8, none⟩ = some (.slice C m d) → Value.ownBlock (.slice C m d) ≠ some g) (k : Nat) (v : Value) : RdW (w.setCell ⟨g, k, none⟩ v) B q en L st := by
 obtain ⟨A, n, c, C, m, d, ts, h1, h2, h3, h4, h5, h6, h7, h9⟩ := h;have hg := xqs w g k v;have ho := h8 C m d (h1.cell (k := 8) rfl);refine ⟨A, n, c, C, m, d, ts, h1.grown hg (fun e => hne (by injection e)), ⟨h2.1, h2.2.1, h2.2.2.1, fun h0 => ?_⟩, ⟨h3.1, h3.2.over hg (fun x e => by cases e; exact ho)⟩, h4, h5, h6, ?_, h9⟩
 · obtain ⟨g2, o, V, e, hb, hr2, hc⟩ := h2.2.2.2 h0;have hr3 := hr2.grown hg (fun e => by injection e with e; omega);exact ⟨g2, o, V, e, hb, hr3, fun i t hi => zq7 (hc i t hi) hr2 hr3⟩
 · refine ⟨h7.1.same fun b i v hb hc => ?_, h7.2⟩;have e := hg.block b (xzb hc) (fun e => by injection e with e; have := h7.2; omega);rw [← hc];simp [World.cell?, e]
set_option maxRecDepth 100000 in
theorem pPower_c (h : RdW w B q en L st) (hB : B ≤ w.heap.size) (hL : L.power ≤ 64) (hfit : st.ts.length ≤ 1000000 ∧ st.mad ≤ 1000000) :
 Calls Tryz.prog 162 #[.pointer (some ⟨q, 0, none⟩)] w fun x w' => x = .returned (.tuple #[]) ∧ RdW w' B q en L (powS L en st) ∧ Kn B q w w' := by
 obtain ⟨⟨k, t, a⟩, hp⟩ : ∃ t, t = pkS st := ⟨_, rfl⟩;replace hp := hid hp.symm;have H0 := hid h;have HBw := hid hB;have hB2 : Hid (∀ g, w.heap.size ≤ g → B ≤ g) := fun g hg => Nat.le_trans hB hg
 have HU : Hid (xq7 Tryz.prog 51 (ndC 8 (xjc st) 0 0 ⟨#[]⟩ ⟨#[]⟩ (a : Int)).size ∧ zN.size = (ndC 8 (xjc st) 0 0 ⟨#[]⟩ ⟨#[]⟩ (a : Int)).size ∧ ∀ v ∈ ndC 8 (xjc st) 0 0 ⟨#[]⟩ ⟨#[]⟩ (a : Int), v.oneCell' = true) := ⟨xjx _ _ _ _ _ _ _, rfl, by simp [Value.oneCell']⟩;have hfld := fun W => (xwt (k : Int) (strOf t) (a : Int) W).2.2
 have HBd : Hid (∀ W, (Instr.build 51 ([(0, .int .i64 8), (1, .int .i64 (xjc st)), (6, .int .i64 (a : Int))] : List (Nat × Value)).toArray).run Tryz.prog W = .ok (.agg (ndC 8 (xjc st) 0 0 ⟨#[]⟩ ⟨#[]⟩ (a : Int))) W) := fun W => by kernel_rfl
 have HFi := hid hfit;have hLp := hid hL;obtain ⟨A0, n0, c0, C, m, d, ts0, r1, r2, r3, r4, r5, r6, r7, r8⟩ := id h;have hc8 := hid (r1.cell (k := 8) (v := .slice C m d) rfl);have hox : Hid (∀ g, w.heap.size ≤ g → Value.ownBlock (.slice C m d) ≠ some g) := fun g hg e => by have := (r3.2.lt _ e).2; omega
 have Hq0 := hid h.lt;clear h hB hfit hL r1 r2 r3 r4 r5 r6 r7 r8;go_enter Tryz.func162, Tryz.ntmps162;go_wp2_with fail
 refine (pLast_c H0.out).mono ?_;rintro e w1 ⟨rfl, rfl⟩;go_wp2_with fail
 refine (pRead_tx H0.out hp.out).mono ?_;rintro e w2 ⟨rfl, h2, hg, h8⟩;have bx := xqc w2 (.cells (ndC 8 (xjc st) 0 0 ⟨#[]⟩ ⟨#[]⟩ (a : Int)) 51);have H2 := hid (h2.below bx);have K2 := hid ((Kn.of (B := B) hg).trans (Kn.below bx));have G2 := hid (gr_trans hg (xjb bx (some q)));have HX2 := hid (xqd w2 51 (ndC 8 (xjc st) 0 0 ⟨#[]⟩ ⟨#[]⟩ (a : Int)));have hgq : Hid (w2.heap.size ≠ q) := by show _ ≠ _; have := h2.lt; omega
 have C2 := hid (h8.trans (C8.below bx h2.lt));have hgw : Hid (w1.heap.size ≤ w2.heap.size) := hg.size;clear h2 hg bx h8;go_wp2_with (first | (refine xqn (by rfl) _ _ (by rfl) _ (by rfl) _ (by assumption) ?_) | (refine xqg (by rfl) _ _ _ (by rfl) _ _ _ (by rfl) (by rfl) (by assumption) ?_; generalize w2.alloc (.cells (ndC 8 (xjc st) 0 0 ⟨#[]⟩ ⟨#[]⟩ (a : Int)) 51) = w3 at *));obtain ⟨gb, hgb⟩ : ∃ g, g = w2.heap.size := ⟨_, rfl⟩;rw [← hgb] at hgq HX2 hgw ⊢;clear hgb HU HBd hfld;cases hs : xqp 3 [45] (rdS st).l with
 | true =>
  have Hs := hid hs;clear hs;refine (xji H2.out 45 (by decide) _ Hs.out).mono ?_;rintro e w4 ⟨rfl, bn⟩;have H4 := hid (H2.out.below bn);have G4 := hid (gr_trans G2.out (xjb bn (some q)));have X4 := hid (HX2.out.below bn);have C4 := hid (C2.out.trans (C8.below bn H2.out.lt));clear bn H2 K2 HX2 G2 C2;go_wp2_with fail
  refine (yja H4.out).mono ?_;rintro e w5 ⟨rfl, h5, hg, h8⟩;have C5 := hid (C4.out.trans h8);have H5 := hid h5;have G5 := hid (gr_trans G4.out hg);have X5 := hid (X4.out.grown hg (fun e => hgq.out (by injection e with e; exact e.symm)));clear h5 hg h8 H4 G4 X4 C4;obtain ⟨A, n, c, C, m, d, hr0⟩ := H5.out.size;have k5 := hr0.cell (k := 5) (v := .int .i64 (L.power : Int)) rfl;clear hr0;go_wp2_with fail
  refine (yw2 H5.out 3 L.power (by decide)).mono ?_;rintro e w6 ⟨N, rfl, hN, h6, hg, h8⟩;have HN := hid hN;have H6 := hid h6;have G6 := hid (gr_trans G5.out hg);have C6 := C5.out.trans h8;have X6 := X5.out.grown hg (fun e => hgq.out (by injection e with e; exact e.symm));have f3 := X6.free 3;have c3 := X6.cell (k := 3) (v := .int .i64 0) rfl;obtain ⟨M, hM⟩ : ∃ M, M = wrap64 (-N) := ⟨_, rfl⟩;unfold C8 at C6;rw [hc8.out] at C6;have HS := hid (h6.setN X6 hgq.out (hB2.out gb hgw.out) (fun C2 m2 d2 e => by rw [C6] at e; injection e with e; rw [← e]; exact hox.out gb hgw.out) 3 (.int .i64 M));have KS := hid (Kn.of (B := B) (gr_new G6.out hgw.out 3 (.int .i64 M)));have XS : Hid (InV (w6.setCell ⟨gb, 3, none⟩ (.int .i64 M)) gb 0 (ndC 8 (xjc st) 0 M ⟨#[]⟩ ⟨#[]⟩ (a : Int))) := (X6.set 3 (.int .i64 M)).inV;have HM := hid (xjx 8 (xjc st) 0 M ⟨#[]⟩ ⟨#[]⟩ (a : Int));have HMv := hid hM;clear hN h6 hg h8 H5 G5 X5 C5 k5 C6 X6 H6 G6
  skip
  skip
  have eM := hM.symm;clear hM;go_wp2_with (refine xqf (by rfl) _ _ (by rfl) _ _ (by rfl) _ (by assumption) (by assumption) ?_);generalize w6.setCell ⟨gb, 3, none⟩ (.int .i64 M) = w7 at *;have hx : (yqp en 3 L.power (rdS (rdS st))).E = 0 → (⟨8, xjc st, 0, M, ⟨#[]⟩, ⟨#[]⟩, (a : Int)⟩ : Nd) = ⟨8, xjc st, 0, (if true = true then -((yzc 3 (rdS (rdS st))).getD 0 : Int) else ((yzc 3 (rdS (rdS st))).getD 0 : Int)), ⟨#[]⟩, ⟨#[]⟩, (a : Int)⟩ := fun e => by
   have h1 := HN.out e;have h2 := sml_le e;have h3 : M = -(((yzc 3 (rdS (rdS st))).getD 0 : Nat) : Int) := by rw [HMv.out, h1]; exact IntWalk.wrap64_in _ (by have := hLp.out; omega)
   rw [h3]; rfl
  refine (yv0 HS.out (Nat.le_trans HBw.out KS.out.size) (by rw [(sml_tm en 3 L.power _).1, (sml_tm en 3 L.power _).2.1]; exact HFi.out) ⟨8, xjc st, 0, M, ⟨#[]⟩, ⟨#[]⟩, (a : Int)⟩ ⟨8, xjc st, 0, (if true = true then -((yzc 3 (rdS (rdS st))).getD 0 : Int) else ((yzc 3 (rdS (rdS st))).getD 0 : Int)), ⟨#[]⟩, ⟨#[]⟩, (a : Int)⟩ rfl hx).mono ?_;rintro e w8 ⟨rfl, h8, k8⟩;have hst : powS L en st = powM L en true (xjc st) (a : Int) (rdS (rdS st)) := by unfold powS; rw [Hs.out, hp.out]; rfl
  go_wp2
  go_end0
  rw [hst];exact ⟨rfl, h8, KS.out.trans k8⟩
 | false =>
  have Hs := hid hs;clear hs;refine (xji H2.out 45 (by decide) _ Hs.out).mono ?_;rintro e w4 ⟨rfl, bn⟩;have H4 := hid (H2.out.below bn);have G4 := hid (gr_trans G2.out (xjb bn (some q)));have X4 := hid (HX2.out.below bn);have C4 := hid (C2.out.trans (C8.below bn H2.out.lt));clear bn H2 K2 HX2 G2 C2;have H5 := hid H4.out;have G5 := hid G4.out;have X5 := hid X4.out;have C5 := hid C4.out;clear H4 G4 X4 C4;generalize w4 = w5 at *;obtain ⟨A, n, c, C, m, d, hr0⟩ := H5.out.size;have k5 := hr0.cell (k := 5) (v := .int .i64 (L.power : Int)) rfl;clear hr0;go_wp2_with fail
  refine (yw2 H5.out 3 L.power (by decide)).mono ?_;rintro e w6 ⟨N, rfl, hN, h6, hg, h8⟩;have HN := hid hN;have H6 := hid h6;have G6 := hid (gr_trans G5.out hg);have C6 := C5.out.trans h8;have X6 := X5.out.grown hg (fun e => hgq.out (by injection e with e; exact e.symm));have f3 := X6.free 3;have c3 := X6.cell (k := 3) (v := .int .i64 0) rfl;obtain ⟨M, hM⟩ : ∃ M, M = wrap64 N := ⟨_, rfl⟩;unfold C8 at C6;rw [hc8.out] at C6;have HS := hid (h6.setN X6 hgq.out (hB2.out gb hgw.out) (fun C2 m2 d2 e => by rw [C6] at e; injection e with e; rw [← e]; exact hox.out gb hgw.out) 3 (.int .i64 M));have KS := hid (Kn.of (B := B) (gr_new G6.out hgw.out 3 (.int .i64 M)));have XS : Hid (InV (w6.setCell ⟨gb, 3, none⟩ (.int .i64 M)) gb 0 (ndC 8 (xjc st) 0 M ⟨#[]⟩ ⟨#[]⟩ (a : Int))) := (X6.set 3 (.int .i64 M)).inV;have HM := hid (xjx 8 (xjc st) 0 M ⟨#[]⟩ ⟨#[]⟩ (a : Int));have HMv := hid hM;clear hN h6 hg h8 H5 G5 X5 C5 k5 C6 X6 H6 G6
  skip
  skip
  have eM := hM.symm;clear hM;go_wp2_with (refine xqf (by rfl) _ _ (by rfl) _ _ (by rfl) _ (by assumption) (by assumption) ?_);generalize w6.setCell ⟨gb, 3, none⟩ (.int .i64 M) = w7 at *;have hx : (yqp en 3 L.power (rdS st)).E = 0 → (⟨8, xjc st, 0, M, ⟨#[]⟩, ⟨#[]⟩, (a : Int)⟩ : Nd) = ⟨8, xjc st, 0, (if false = true then -((yzc 3 (rdS st)).getD 0 : Int) else ((yzc 3 (rdS st)).getD 0 : Int)), ⟨#[]⟩, ⟨#[]⟩, (a : Int)⟩ := fun e => by
   have h1 := HN.out e;have h2 := sml_le e;have h3 : M = (((yzc 3 (rdS st)).getD 0 : Nat) : Int) := by rw [HMv.out, h1]; exact IntWalk.wrap64_in _ (by have := hLp.out; omega)
   rw [h3]; rfl
  refine (yv0 HS.out (Nat.le_trans HBw.out KS.out.size) (by rw [(sml_tm en 3 L.power _).1, (sml_tm en 3 L.power _).2.1]; exact HFi.out) ⟨8, xjc st, 0, M, ⟨#[]⟩, ⟨#[]⟩, (a : Int)⟩ ⟨8, xjc st, 0, (if false = true then -((yzc 3 (rdS st)).getD 0 : Int) else ((yzc 3 (rdS st)).getD 0 : Int)), ⟨#[]⟩, ⟨#[]⟩, (a : Int)⟩ rfl hx).mono ?_;rintro e w8 ⟨rfl, h8, k8⟩;have hst : powS L en st = powM L en false (xjc st) (a : Int) (rdS st) := by unfold powS; rw [Hs.out, hp.out]; rfl
  go_wp2
  go_end0
  rw [hst];exact ⟨rfl, h8, KS.out.trans k8⟩
end
section
variable {w : World} {B q en : Nat} {L : Lim} {st : St}
def tlen (q : Nat) (w : World) : Nat := match w.cell? ⟨q, 0, none⟩ with
 | some (.slice _ n _) => n
 | _ => 0
theorem xw4 {w : World} {B q en : Nat} {L : Lim} {st : St} (h : RdW w B q en L st) : tlen q w = st.l.length := by
 obtain ⟨A, n, c, C, m, d, ts, h1, h2, _⟩ := h;unfold tlen;rw [h1.cell (k := 0) (v := .slice A n c) rfl];exact h2.1
structure Fu (L : Lim) (k : Nat) (st : St) : Prop where
 one : 1 ≤ k
 deep : st.l ≠ [] → st.op ≤ L.deep ∧ L.deep + 2 ≤ k + st.op
 op : st.op ≤ 100
 ts : st.ts.length + mu st.l ≤ 90000
 mad : st.mad + mu st.l ≤ 90000
theorem Fu.rd {L : Lim} {k : Nat} {st : St} (h : Fu L k st) : Fu L k (rdS st) := by
 have hm : mu st.l.tail ≤ mu st.l := mu_le (by simp);have h1 := h.ts;have h2 := h.mad;refine ⟨h.one, fun hn => h.deep (fun e => hn (by show st.l.tail = []; rw [e]; rfl)), h.op, ?_, ?_⟩
 · show st.ts.length + mu st.l.tail ≤ _; omega
 · show st.mad + mu st.l.tail ≤ _; omega
theorem Fu.cn {L : Lim} {k : Nat} {st s : St} (h : Fu L k st) (hn : st.l ≠ []) (hc : Cn 0 st s) : Fu L k s := by
 have h1 := hc.cnt;have h2 := hc.mad;have h3 := hc.op;have h4 := h.ts;have h5 := h.mad;have h6 := h.deep hn;exact ⟨h.one, fun _ => by rw [h3]; exact h6, by rw [h3]; exact h.op, by omega, by omega⟩
theorem fit_of {c : Nat} {st s : St} (hc : Cn c st s) (h : st.ts.length + mu st.l ≤ 90000) (h2 : st.mad + mu st.l ≤ 90000) (h3 : c ≤ 10) : s.ts.length ≤ 1000000 ∧ s.mad ≤ 1000000 := by
 have h1 := hc.cnt;have h4 := hc.mad;omega
theorem opn_fu {L : Lim} {k : Nat} {st : St} (hL : L.Fit) (h : Fu L (k + 1) st) (hn : st.l ≠ []) (hi : st.E ≠ 0 → st.l = []) : Fu L k (xz1 L st) := by
 have hd := h.deep hn;obtain ⟨ho, hop⟩ := opn_co L hn;have h1 := ho.cnt;have h2 := ho.mad;have h4 := h.ts;have h5 := h.mad;have h6 := hL.2.2.1;refine ⟨by omega, fun hl => ?_, by rw [hop]; omega, by omega, by omega⟩;rw [hop];have hlt : st.op ≠ L.deep := by
  intro e;apply hl
  unfold xz1 yqr;rw [if_pos e];have he : st.E = 0 := Classical.byContradiction fun h => hn (hi h)
  unfold xjp;rw [if_pos he]; rfl
 omega
def FacOk (B q en : Nat) (L : Lim) (k : Nat) (fS : St → St) : Prop := ∀ (w : World) (st : St), RdW w B q en L st → B ≤ w.heap.size → Fu L k st → Calls Tryz.prog 142 #[.pointer (some ⟨q, 0, none⟩)] w fun e w' => e = .returned (.tuple #[]) ∧ RdW w' B q en L (fS st) ∧ Kn B q w w'
def TrmOk (B q en : Nat) (L : Lim) (k : Nat) (fS : St → St) : Prop := ∀ (w : World) (st : St), RdW w B q en L st → B ≤ w.heap.size → Fu L k st → Calls Tryz.prog 116 #[.pointer (some ⟨q, 0, none⟩)] w fun e w' => e = .returned (.tuple #[]) ∧ RdW w' B q en L (fS st) ∧ Kn B q w w'
def FrmOk (B q en : Nat) (L : Lim) (k : Nat) (fS : St → St) : Prop := ∀ (w : World) (st : St), RdW w B q en L st → B ≤ w.heap.size → Fu L k st → Calls Tryz.prog 79 #[.pointer (some ⟨q, 0, none⟩)] w fun e w' => e = .returned (.tuple #[]) ∧ RdW w' B q en L (fS st) ∧ Kn B q w w'
set_option maxRecDepth 100000 in
theorem pTerm_c {B q en : Nat} {L : Lim} {k : Nat} {fS : St → St} (hgood : xwg fS) (hok : FacOk B q en L k fS) : TrmOk B q en L k (rowK L fS zqz) := by
 intro w st h hB hfu;have hmf : ∀ (fn : Fn) (first cap : Array Value) (w : World), (Instr.makeFunc fn first cap).run Tryz.prog w = .ok (.func fn first cap) w := fun _ _ _ _ => rfl
 have HMF := hid hmf;clear hmf;have HT : Hid (∃ T, T = rowK L (fS) zqz st) := ⟨_, rfl⟩;obtain ⟨T, hT⟩ := HT.out;have HT2 := hid hT;have hg := hid hgood;have HO := hid hok;have HBw := hid hB;have HFu := hid hfu;have H0 := hid h;have HE : Hid (rowK L (fS) zqz st = T) := hT.symm;clear h hB hfu hT HT hgood hok;go_enter Tryz.func116, Tryz.ntmps116;go_wp2_with fail
 refine (HO.out w st H0.out HBw.out HFu.out).mono ?_;rintro e w1 ⟨rfl, h1, k1⟩;have H1 := hid h1;have K1 := hid k1;have HL1 : Hid (yw7 L (fS) zqz (fS st).l.length (fS st) = T) := HE.out;have HF1 : Hid ((fS st).l ≠ [] → Fu L k (fS st)) := by
  intro hn;have hc := hg.out st;have hn0 : st.l ≠ [] := fun e => hn (List.length_eq_zero_iff.1 (by have := hc.len; rw [e] at this; exact Nat.le_zero.1 this))
  rw [if_neg hn0] at hc;exact HFu.out.cn hn0 hc
 clear h1 k1;go_wp2
 go_loopw [5] (fun _ wr => ∃ s : St, Hid (RdW wr B q en L s) ∧ Hid (s.l ≠ [] → Fu L k s) ∧ Hid (Kn B q w wr) ∧ Hid (yw7 L (fS) zqz s.l.length s = T)) (fun _ wr => tlen q wr)
 case atStart => exact ⟨fS st, H1, HF1, K1, HL1⟩
 case round =>
  clear H1 HF1 K1 HL1;obtain ⟨s, HS, HF, HK, HL⟩ := hrel;have hmf := HMF.out;cases hs1 : xqp 3 [42] s.l with
  | true =>
   have hob : zqz s.l = true := by show (xqp 3 [42] s.l || xqp 3 [47] s.l) = true; rw [hs1]; rfl
   have Hs1 := hid hs1;have Hob : Hid (zqz s.l = true) := hob;have Hne := hid (ob_ne (ob := zqz) (.inr rfl) hob);clear hob hs1;go_wp2_with fail
   refine (xji HS.out 42 (by decide) _ Hs1.out).mono ?_;rintro e w2 ⟨rfl, bn⟩;have H2 := hid (HS.out.below bn);have K2 := hid (HK.out.trans (Kn.below bn));clear bn;go_wp2_with fail
   refine (pJoin_c H2.out (Nat.le_trans HBw.out K2.out.size) 142 (fun _ _ => rfl) (fS) (fun w9 h9 b9 => HO.out w9 (rdS s) h9 b9 (HF.out Hne.out).rd) ?_).mono ?_
   · have hfu := (HF.out Hne.out).rd;exact fit_of (hg.out (rdS s)) hfu.ts hfu.mad (by split <;> omega)
   rintro e wN ⟨rfl, h9, k9⟩;have HN := hid h9;have KN := hid (K2.out.trans k9);have hj := ywm hg.out L Hne.out;have HFN : Hid ((yzv L (fS) s).l ≠ [] → Fu L k (yzv L (fS) s)) := fun _ => (HF.out Hne.out).cn Hne.out hj.1
   have HLN : Hid (yw7 L (fS) zqz (yzv L (fS) s).l.length (yzv L (fS) s) = T) := by show _ = _; rw [← yw6 hg.out L (.inr rfl) Hob.out]; exact HL.out
   have HME : Hid (tlen q wN < tlen q wr) := by show _ < _; rw [xw4 HN.out, xw4 HS.out]; exact hj.2
   clear h9 k9 hj;go_wp2
   go_roundw
   case rel => exact ⟨_, HN, HFN, KN, HLN⟩
   case measure => exact HME.out
  | false =>
   cases hs2 : xqp 3 [47] s.l with
   | true =>
    have hob : zqz s.l = true := by show (xqp 3 [42] s.l || xqp 3 [47] s.l) = true; rw [hs1, hs2]; rfl
    have Hs1 := hid hs1;have Hs2 := hid hs2;have Hob : Hid (zqz s.l = true) := hob;have Hne := hid (ob_ne (ob := zqz) (.inr rfl) hob);clear hob hs1 hs2;go_wp2_with fail
    refine (xji HS.out 42 (by decide) _ Hs1.out).mono ?_;rintro e w2 ⟨rfl, bn⟩;have H2 := hid (HS.out.below bn);have K2 := hid (HK.out.trans (Kn.below bn));clear bn;go_wp2_with fail
    refine (xji H2.out 47 (by decide) _ Hs2.out).mono ?_;rintro e w3 ⟨rfl, bn⟩;have H3 := hid (H2.out.below bn);have K3 := hid (K2.out.trans (Kn.below bn));clear bn;go_wp2_with fail
    refine (pJoin_c H3.out (Nat.le_trans HBw.out K3.out.size) 142 (fun _ _ => rfl) (fS) (fun w9 h9 b9 => HO.out w9 (rdS s) h9 b9 (HF.out Hne.out).rd) ?_).mono ?_
    · have hfu := (HF.out Hne.out).rd;exact fit_of (hg.out (rdS s)) hfu.ts hfu.mad (by split <;> omega)
    rintro e wN ⟨rfl, h9, k9⟩;have HN := hid h9;have KN := hid (K3.out.trans k9);have hj := ywm hg.out L Hne.out;have HFN : Hid ((yzv L (fS) s).l ≠ [] → Fu L k (yzv L (fS) s)) := fun _ => (HF.out Hne.out).cn Hne.out hj.1
    have HLN : Hid (yw7 L (fS) zqz (yzv L (fS) s).l.length (yzv L (fS) s) = T) := by show _ = _; rw [← yw6 hg.out L (.inr rfl) Hob.out]; exact HL.out
    have HME : Hid (tlen q wN < tlen q wr) := by show _ < _; rw [xw4 HN.out, xw4 HS.out]; exact hj.2
    clear h9 k9 hj;go_wp2
    go_roundw
    case rel => exact ⟨_, HN, HFN, KN, HLN⟩
    case measure => exact HME.out
   | false =>
    have hst : Hid (s = T) := by
     show _ = _;rw [← HL.out];exact (xwx L _ (by show (xqp 3 [42] s.l || xqp 3 [47] s.l) = false; rw [hs1, hs2]; rfl) _).symm
    have Hs1 := hid hs1;have Hs2 := hid hs2;clear hs1 hs2;go_wp2_with fail
    refine (xji HS.out 42 (by decide) _ Hs1.out).mono ?_;rintro e w2 ⟨rfl, bn⟩;have H2 := hid (HS.out.below bn);have K2 := hid (HK.out.trans (Kn.below bn));clear bn;go_wp2_with fail
    refine (xji H2.out 47 (by decide) _ Hs2.out).mono ?_;rintro e w3 ⟨rfl, bn⟩;have H3 := hid (H2.out.below bn);have K3 := hid (K2.out.trans (Kn.below bn));clear bn;go_wp2
    go_end0
    have h5 := H3.out;rw [hst.out, HT2.out] at h5;exact ⟨rfl, h5, K3.out⟩
set_option maxRecDepth 100000 in
theorem pForm_c {B q en : Nat} {L : Lim} {k : Nat} {fS : St → St} (hgood : xwg fS) (hok : TrmOk B q en L k fS) : FrmOk B q en L k (rowK L fS zjl) := by
 intro w st h hB hfu;have hmf : ∀ (fn : Fn) (first cap : Array Value) (w : World), (Instr.makeFunc fn first cap).run Tryz.prog w = .ok (.func fn first cap) w := fun _ _ _ _ => rfl
 have HMF := hid hmf;clear hmf;have HT : Hid (∃ T, T = rowK L (fS) zjl st) := ⟨_, rfl⟩;obtain ⟨T, hT⟩ := HT.out;have HT2 := hid hT;have hg := hid hgood;have HO := hid hok;have HBw := hid hB;have HFu := hid hfu;have H0 := hid h;have HE : Hid (rowK L (fS) zjl st = T) := hT.symm;clear h hB hfu hT HT hgood hok;go_enter Tryz.func79, Tryz.ntmps79;go_wp2_with fail
 refine (HO.out w st H0.out HBw.out HFu.out).mono ?_;rintro e w1 ⟨rfl, h1, k1⟩;have H1 := hid h1;have K1 := hid k1;have HL1 : Hid (yw7 L (fS) zjl (fS st).l.length (fS st) = T) := HE.out;have HF1 : Hid ((fS st).l ≠ [] → Fu L k (fS st)) := by
  intro hn;have hc := hg.out st;have hn0 : st.l ≠ [] := fun e => hn (List.length_eq_zero_iff.1 (by have := hc.len; rw [e] at this; exact Nat.le_zero.1 this))
  rw [if_neg hn0] at hc;exact HFu.out.cn hn0 hc
 clear h1 k1;go_wp2
 go_loopw [5] (fun _ wr => ∃ s : St, Hid (RdW wr B q en L s) ∧ Hid (s.l ≠ [] → Fu L k s) ∧ Hid (Kn B q w wr) ∧ Hid (yw7 L (fS) zjl s.l.length s = T)) (fun _ wr => tlen q wr)
 case atStart => exact ⟨fS st, H1, HF1, K1, HL1⟩
 case round =>
  clear H1 HF1 K1 HL1;obtain ⟨s, HS, HF, HK, HL⟩ := hrel;have hmf := HMF.out;cases hs1 : xqp 3 [43] s.l with
  | true =>
   have hob : zjl s.l = true := by show (xqp 3 [43] s.l || xqp 3 [45] s.l) = true; rw [hs1]; rfl
   have Hs1 := hid hs1;have Hob : Hid (zjl s.l = true) := hob;have Hne := hid (ob_ne (ob := zjl) (.inl rfl) hob);clear hob hs1;go_wp2_with fail
   refine (xji HS.out 43 (by decide) _ Hs1.out).mono ?_;rintro e w2 ⟨rfl, bn⟩;have H2 := hid (HS.out.below bn);have K2 := hid (HK.out.trans (Kn.below bn));clear bn;go_wp2_with fail
   refine (pJoin_c H2.out (Nat.le_trans HBw.out K2.out.size) 116 (fun _ _ => rfl) (fS) (fun w9 h9 b9 => HO.out w9 (rdS s) h9 b9 (HF.out Hne.out).rd) ?_).mono ?_
   · have hfu := (HF.out Hne.out).rd;exact fit_of (hg.out (rdS s)) hfu.ts hfu.mad (by split <;> omega)
   rintro e wN ⟨rfl, h9, k9⟩;have HN := hid h9;have KN := hid (K2.out.trans k9);have hj := ywm hg.out L Hne.out;have HFN : Hid ((yzv L (fS) s).l ≠ [] → Fu L k (yzv L (fS) s)) := fun _ => (HF.out Hne.out).cn Hne.out hj.1
   have HLN : Hid (yw7 L (fS) zjl (yzv L (fS) s).l.length (yzv L (fS) s) = T) := by show _ = _; rw [← yw6 hg.out L (.inl rfl) Hob.out]; exact HL.out
   have HME : Hid (tlen q wN < tlen q wr) := by show _ < _; rw [xw4 HN.out, xw4 HS.out]; exact hj.2
   clear h9 k9 hj;go_wp2
   go_roundw
   case rel => exact ⟨_, HN, HFN, KN, HLN⟩
   case measure => exact HME.out
  | false =>
   cases hs2 : xqp 3 [45] s.l with
   | true =>
    have hob : zjl s.l = true := by show (xqp 3 [43] s.l || xqp 3 [45] s.l) = true; rw [hs1, hs2]; rfl
    have Hs1 := hid hs1;have Hs2 := hid hs2;have Hob : Hid (zjl s.l = true) := hob;have Hne := hid (ob_ne (ob := zjl) (.inl rfl) hob);clear hob hs1 hs2;go_wp2_with fail
    refine (xji HS.out 43 (by decide) _ Hs1.out).mono ?_;rintro e w2 ⟨rfl, bn⟩;have H2 := hid (HS.out.below bn);have K2 := hid (HK.out.trans (Kn.below bn));clear bn;go_wp2_with fail
    refine (xji H2.out 45 (by decide) _ Hs2.out).mono ?_;rintro e w3 ⟨rfl, bn⟩;have H3 := hid (H2.out.below bn);have K3 := hid (K2.out.trans (Kn.below bn));clear bn;go_wp2_with fail
    refine (pJoin_c H3.out (Nat.le_trans HBw.out K3.out.size) 116 (fun _ _ => rfl) (fS) (fun w9 h9 b9 => HO.out w9 (rdS s) h9 b9 (HF.out Hne.out).rd) ?_).mono ?_
    · have hfu := (HF.out Hne.out).rd;exact fit_of (hg.out (rdS s)) hfu.ts hfu.mad (by split <;> omega)
    rintro e wN ⟨rfl, h9, k9⟩;have HN := hid h9;have KN := hid (K3.out.trans k9);have hj := ywm hg.out L Hne.out;have HFN : Hid ((yzv L (fS) s).l ≠ [] → Fu L k (yzv L (fS) s)) := fun _ => (HF.out Hne.out).cn Hne.out hj.1
    have HLN : Hid (yw7 L (fS) zjl (yzv L (fS) s).l.length (yzv L (fS) s) = T) := by show _ = _; rw [← yw6 hg.out L (.inl rfl) Hob.out]; exact HL.out
    have HME : Hid (tlen q wN < tlen q wr) := by show _ < _; rw [xw4 HN.out, xw4 HS.out]; exact hj.2
    clear h9 k9 hj;go_wp2
    go_roundw
    case rel => exact ⟨_, HN, HFN, KN, HLN⟩
    case measure => exact HME.out
   | false =>
    have hst : Hid (s = T) := by
     show _ = _;rw [← HL.out];exact (xwx L _ (by show (xqp 3 [43] s.l || xqp 3 [45] s.l) = false; rw [hs1, hs2]; rfl) _).symm
    have Hs1 := hid hs1;have Hs2 := hid hs2;clear hs1 hs2;go_wp2_with fail
    refine (xji HS.out 43 (by decide) _ Hs1.out).mono ?_;rintro e w2 ⟨rfl, bn⟩;have H2 := hid (HS.out.below bn);have K2 := hid (HK.out.trans (Kn.below bn));clear bn;go_wp2_with fail
    refine (xji H2.out 45 (by decide) _ Hs2.out).mono ?_;rintro e w3 ⟨rfl, bn⟩;have H3 := hid (H2.out.below bn);have K3 := hid (K2.out.trans (Kn.below bn));clear bn;go_wp2
    go_end0
    have h5 := H3.out;rw [hst.out, HT2.out] at h5;exact ⟨rfl, h5, K3.out⟩
end
section
variable {w : World} {B q en : Nat} {L : Lim} {st : St}
set_option maxRecDepth 100000 in
theorem pFac_step {B q en : Nat} {L : Lim} {k : Nat} {fS : St → St} (hL : L.Fit) (hgood : xwg fS) (hok : FacOk B q en L k fS) : FacOk B q en L (k + 1) (yww L en fS) := by
 intro w st h hB hfu;have H0 := hid h;have HBw := hid hB;have HFu := hid hfu;have HO := hid hok;have hg := hid hgood;have hl := hid hL;have Hop : Hid (st.op ≤ 1000) := by have := hfu.op; show _ ≤ _; omega
 have Hi := hid h.inv;clear h hB hfu hok hgood hL;cases hs : xqp 3 [45] st.l with
 | true =>
  have Hne := hid (yqs hs);have Hs := hid hs;obtain ⟨⟨kx, tx, ax⟩, hx⟩ : ∃ t, t = opnX L st := ⟨_, rfl⟩;replace hx := hid hx.symm;have hfld := fun W => (xwt (kx : Int) (strOf tx) (ax : Int) W).2.2
  have HBd : Hid (∀ W, (Instr.build 51 ([(0, .int .i64 7), (1, .int .i64 (xjc (fS (xz1 L st)))), (6, .int .i64 (ax : Int))] : List (Nat × Value)).toArray).run Tryz.prog W = .ok (.agg (ndC 7 (xjc (fS (xz1 L st))) 0 0 ⟨#[]⟩ ⟨#[]⟩ (ax : Int))) W) := fun W => by kernel_rfl
  clear hs;go_enter Tryz.func142, Tryz.ntmps142;go_wp2_with fail
  refine (xji H0.out 45 (by decide) _ Hs.out).mono ?_;rintro e w1 ⟨rfl, bn⟩;have H1 := hid (H0.out.below bn);have K1 := hid (Kn.below (B := B) (q := q) bn);clear bn;go_wp2_with fail
  have HOp := pOpen_c H1.out Hop.out (Nat.le_trans HBw.out K1.out.size);rw [hx.out] at HOp;refine HOp.mono ?_;clear HOp;rintro e w2 ⟨rfl, h2, hg2⟩;have H2 := hid h2;have K2 := hid (K1.out.trans (Kn.of (B := B) hg2));clear h2 hg2;dsimp only [tkV];go_wp2_with fail
  refine (HO.out w2 (xz1 L st) H2.out (Nat.le_trans HBw.out K2.out.size) (opn_fu hl.out HFu.out Hne.out Hi.out)).mono ?_;rintro e w3 ⟨rfl, h3, hk3⟩;have H3 := hid h3;have K3 := hid (K2.out.trans hk3);clear h3 hk3;have hc := co_step hg.out (opn_co L Hne.out).1;have hop2 : (fS (xz1 L st)).op = st.op + 1 := hc.2.2.2.trans (opn_co L Hne.out).2;obtain ⟨k10, f10⟩ := H3.out.cell10;rw [hop2] at k10;have eop : ((st.op + 1 : Nat) : Int) - 1 = (st.op : Int) := by omega
  have hop6 : ((st.op + 1 : Nat) : Int) ≤ 1000000 := by have := Hop.out; omega
  have hop0 : (1 : Int) ≤ ((st.op + 1 : Nat) : Int) := by omega
  have HD : Hid (RdW (w3.setCell ⟨q, 10, none⟩ (.int .i64 (st.op : Int))) B q en L (shtS (fS (xz1 L st)))) := by
   have h := H3.out.depth st.op;have e : shtS (fS (xz1 L st)) = { fS (xz1 L st) with op := st.op } := by unfold shtS; rw [hop2]; rfl
   show RdW _ _ _ _ _ _;rw [e]; exact h
  have KD := hid (K3.out.trans (Kn.of (B := B) (xqs w3 q 10 (.int .i64 (st.op : Int)))));have hfit : Hid ((shtS (fS (xz1 L st))).ts.length ≤ 1000000 ∧ (shtS (fS (xz1 L st))).mad ≤ 1000000) := by
   have h1 := hc.2.1;have h2 := hc.2.2.1;have h3 := HFu.out.ts;have h4 := HFu.out.mad;show (fS (xz1 L st)).ts.length ≤ _ ∧ (fS (xz1 L st)).mad ≤ _;omega
  generalize ((st.op + 1 : Nat) : Int) = opz at *;clear hc;go_wp2_with fail
  generalize w3.setCell ⟨q, 10, none⟩ (.int .i64 (st.op : Int)) = w4 at *;clear k10 f10 eop hop6 hop0;refine (pLast_c HD.out).mono ?_;rintro e w5 ⟨rfl, rfl⟩
  skip
  have hls : xjc (shtS (fS (xz1 L st))) = xjc (fS (xz1 L st)) := rfl;rw [hls];clear hls;go_wp2_with (refine xqn (by rfl) _ _ (by rfl) _ (by rfl) _ (by assumption) ?_);refine (yv0 HD.out (Nat.le_trans HBw.out KD.out.size) hfit.out ⟨7, xjc (fS (xz1 L st)), 0, 0, ⟨#[]⟩, ⟨#[]⟩, (ax : Int)⟩ ⟨7, xjc (fS (xz1 L st)), 0, 0, ⟨#[]⟩, ⟨#[]⟩, (ax : Int)⟩ rfl (fun _ => rfl)).mono ?_;rintro e w6 ⟨rfl, h6, k6⟩;have H6 := hid h6;have K6 := hid (KD.out.trans k6);clear h6 k6;go_wp2
  refine bodyPost_ret (results_none rfl _ _ _) rfl ?_;have hst : yww L en fS st = zqt L ⟨7, xjc (fS (xz1 L st)), 0, 0, ⟨#[]⟩, ⟨#[]⟩, (ax : Int)⟩ (shtS (fS (xz1 L st))) := by unfold yww; rw [if_pos Hs.out, hx.out]
  rw [hst];exact ⟨rfl, H6.out, K6.out⟩
 | false =>
  have Hs := hid hs;clear hs;have HA : Hid (∀ w1, RdW w1 B q en L st → B ≤ w1.heap.size → Calls Tryz.prog 161 #[.pointer (some ⟨q, 0, none⟩)] w1 fun x w' => x = .returned (.tuple #[]) ∧ RdW w' B q en L (ywt L en (yvs L fS) st) ∧ Kn B q w1 w') := fun w1 h1 b1 => pAtom_c h1 b1 Hop.out (yvs L fS) (fun h40 w9 h9 b9 => pForm_c (ywy hg.out L) (pTerm_c hg.out HO.out) w9 (xz1 L st) h9 b9 (opn_fu hl.out HFu.out (yqs h40) Hi.out)) (fun h40 => (zqb hg.out L (xz1 L st)).op.trans (opn_co L (yqs h40)).2) ⟨by have := HFu.out.ts; omega, by have := HFu.out.mad; omega⟩
  have hfit : Hid ((ywt L en (yvs L fS) st).ts.length ≤ 1000000 ∧ (ywt L en (yvs L fS) st).mad ≤ 1000000) := fit_of (atm_good L en (zqb hg.out L) st) HFu.out.ts HFu.out.mad (by split <;> omega);have hst : Hid (yww L en fS st = if xqp 3 [94] (ywt L en (yvs L fS) st).l = true then powS L en (ywt L en (yvs L fS) st) else ywt L en (yvs L fS) st) := by show _ = _; unfold yww; rw [Hs.out]; rfl
  generalize hAs : ywt L en (yvs L fS) st = sA at *;clear hAs;go_enter Tryz.func142, Tryz.ntmps142;go_wp2_with fail
  refine (xji H0.out 45 (by decide) _ Hs.out).mono ?_;rintro e w1 ⟨rfl, bn⟩;have H1 := hid (H0.out.below bn);have K1 := hid (Kn.below (B := B) (q := q) bn);clear bn;go_wp2_with fail
  refine (HA.out w1 H1.out (Nat.le_trans HBw.out K1.out.size)).mono ?_;rintro e w2 ⟨rfl, h2, k2⟩;have H2 := hid h2;have K2 := hid (K1.out.trans k2);clear h2 k2;cases hp : xqp 3 [94] sA.l with
  | true =>
   have Hp := hid hp;rw [hp] at hst;clear hp;go_wp2_with fail
   refine (xji H2.out 94 (by decide) _ Hp.out).mono ?_;rintro e w3 ⟨rfl, bn⟩;have H3 := hid (H2.out.below bn);have K3 := hid (K2.out.trans (Kn.below bn));clear bn;go_wp2_with fail
   refine (pPower_c H3.out (Nat.le_trans HBw.out K3.out.size) hl.out.2.1 hfit.out).mono ?_;rintro e w4 ⟨rfl, h4, k4⟩;have H4 := hid h4;have K4 := hid (K3.out.trans k4);clear h4 k4;go_wp2
   go_end0
   rw [hst.out];exact ⟨rfl, H4.out, K4.out⟩
  | false =>
   have Hp := hid hp;rw [hp] at hst;clear hp;go_wp2_with fail
   refine (xji H2.out 94 (by decide) _ Hp.out).mono ?_;rintro e w3 ⟨rfl, bn⟩;have H3 := hid (H2.out.below bn);have K3 := hid (K2.out.trans (Kn.below bn));clear bn;go_wp2
   go_end0
   rw [hst.out];exact ⟨rfl, H3.out, K3.out⟩
theorem pFactor_c (B q en : Nat) {L : Lim} (hL : L.Fit) : ∀ k, FacOk B q en L k (facK L en k)
 | 0 => fun w st _ _ hfu => absurd hfu.one (by decide)
 | k + 1 => pFac_step hL (xw1 L en k) (pFactor_c B q en hL k)
theorem pFormula_r (B q en : Nat) {L : Lim} (hL : L.Fit) (k : Nat) : FrmOk B q en L k (yvs L (facK L en k)) := pForm_c (ywy (xw1 L en k) L) (pTerm_c (xw1 L en k) (pFactor_c B q en hL k))
theorem Kn.grownBy {q : Nat} {w w' : World} (h : Kn w.heap.size q w w') : w.grownBy w' (some q) := ⟨h.os, h.tape, h.output, h.size, fun i hi hq => h.block i hi (fun e => hq (by rw [e])) (fun hb => absurd hi (by omega))⟩
set_option maxRecDepth 100000 in
theorem pTree_c (h : RdW w B q en L st) (hB : B ≤ w.heap.size) (hL : L.Fit) {K : Nat} (hfu : Fu L K (nilS st)) :
 Calls Tryz.prog 40 #[.pointer (some ⟨q, 0, none⟩)] w fun x w' => ∃ C m d ts, x = .returned (.slice C m d) ∧ OwnT w' w.heap.size C m d ts ∧ ((xwu L en K st).E = 0 → ts = (xwu L en K st).ts) ∧ RdW w' w.heap.size q en L (xwu L en K st) ∧ w.grownBy w' (some q) := by
 obtain ⟨A, n, c, C, m, d, ts, h1, h2, h3, h4, h5, h6, h7, h8⟩ := id h;have k8 := h1.cell (k := 8) (v := .slice C m d) rfl;have f8 := h1.free 8;have hg := xqs w q 8 (.slice none 0 0);have HN : Hid (RdW (w.setCell ⟨q, 8, none⟩ (.slice none 0 0)) w.heap.size q en L (nilS st)) := by
  refine ⟨A, n, c, none, 0, 0, [], h1.set 8 _, ?_, ⟨rfl, OwnR.nil _ _ _ _⟩, rfl, fun _ => rfl, h1.lt, h7.kn (Kn.of hg) h6, h8⟩;have hk := h2.kn (Kn.of (B := B) hg) h1;refine ⟨hk.1, hk.2.1, hk.2.2.1, fun h0 => ?_⟩;obtain ⟨g, o, V, e, hb, hr, hc⟩ := hk.2.2.2 h0;exact ⟨g, o, V, e, Nat.lt_of_lt_of_le hb hB, hr, hc⟩
 have HG := hid hg;have HFu := hid hfu;have hl := hid hL;have hsz : Hid (w.heap.size ≤ (w.setCell ⟨q, 8, none⟩ (.slice none 0 0)).heap.size) := by show _ ≤ _; rw [World.size_setCell]; exact Nat.le_refl _
 clear h h1 h2 h3 h4 h5 h6 h7 h8 hg hB hfu hL;go_enter Tryz.func40, Tryz.ntmps40;go_wp2_with fail
 generalize w.setCell ⟨q, 8, none⟩ (.slice none 0 0) = w1 at *;clear k8 f8;refine (pFormula_r w.heap.size q en hl.out K w1 (nilS st) HN.out hsz.out HFu.out).mono ?_;rintro e w2 ⟨rfl, h2, k2⟩;obtain ⟨A2, n2, c2, C2, m2, d2, ts2, r1, r2, r3, r4, r5, r6⟩ := id h2;have k8 := r1.cell (k := 8) (v := .slice C2 m2 d2) rfl;have hgb := (Kn.of (B := w.heap.size) HG.out).trans k2;have H2 := hid h2;have HK := hid hgb;have H3 := hid r3;have H45 := hid (And.intro r4 r5);clear h2 r1 r2 r3 r4 r5 r6 hgb k2;go_wp2
 go_ret
 exact ⟨C2, m2, d2, ts2, rfl, H3.out, H45.out.2, H2.out, HK.out.grownBy⟩
end
section
variable {w : World} {B q en : Nat} {L : Lim} {st : St}
theorem yvx (a b : List Nat) : strOf (a ++ b) = strOf a ++ strOf b := by
 apply ByteArray.ext
 rw [ByteArray.data_append];unfold strOf
 simp
theorem yvz (h : RdW w B q en L st) (kd : Nat) {X : ByteArray} (hX : strOf (yza en kd st) = X) : Calls Tryz.prog 111 #[.pointer (some ⟨q, 0, none⟩), .int .i64 (kd : Int)] w fun x w' => x = .returned (.string X) ∧ RdW w' B q en L (xwp en kd st) ∧ w.grownBy w' (some q) := by
 have := pTake_c h kd;rw [hX] at this;exact this
theorem pRead_s (h : RdW w B q en L st) {kd ap : Nat} {tx : List Nat} (hp : pkS st = (kd, tx, ap)) {X : ByteArray} (hX : strOf tx = X) : Calls Tryz.prog 75 #[.pointer (some ⟨q, 0, none⟩)] w fun x w' => x = .returned (.agg #[.int .i64 (kd : Int), .string X, .int .i64 (ap : Int)]) ∧ RdW w' B q en L (rdS st) ∧ w.grownBy w' (some q) := by
 have := pRead_t h hp;rw [hX] at this;exact this
theorem ywz (h : RdW w B q en L st) (kd : Nat) : (yza en kd st).length ≤ 5000 := by
 have hf := h.pk.2.1;unfold yza takP xv3
 split
 · exact hf
 · unfold yqc xjp
   split
   · show (pkL []).2.1.length ≤ 5000; decide
   · exact hf
set_option maxRecDepth 100000 in
theorem pNum_c (h : RdW w B q en L st) :
 Calls Tryz.prog 113 #[.pointer (some ⟨q, 0, none⟩)] w fun x w' => x = .returned (.string (strOf (yw3 en st))) ∧ RdW w' B q en L (yz8 en st) ∧ w.grownBy w' (some q) := by
 have H0 := hid h;have G0 := hid (xjb (Below.refl w.heap.size w) (some q));clear h;cases hs : xqp 3 [45] st.l with
 | true =>
  have Hs := hid hs;clear hs;obtain ⟨⟨k, t, a⟩, hp⟩ : ∃ t, t = pkS (st) := ⟨_, rfl⟩;replace hp := hid hp.symm;obtain ⟨X0, hX0⟩ : ∃ X, X = strOf t := ⟨_, rfl⟩;have hfld := fun W => (xwt (k : Int) X0 (a : Int) W).2.1
  have hS0 := xqh t;rw [← hX0] at hS0;have HX0 := hid hX0;clear hX0;obtain ⟨x1, hx1⟩ : ∃ x, x = yza en 2 (rdS st) := ⟨_, rfl⟩;have Hx1 := hid hx1;obtain ⟨X1, hX1⟩ : ∃ X, X = strOf x1 := ⟨_, rfl⟩;have HX1 := hid hX1;have HX1t : Hid (strOf (yza en 2 (rdS st)) = X1) := by show _ = _; rw [← hx1, ← hX1]
  clear hx1 hX1;go_enter Tryz.func113, Tryz.ntmps113;go_wp2_with fail
  refine (xji H0.out 45 (by decide) _ Hs.out).mono ?_;rintro e w1 ⟨rfl, bn⟩;have H1 := hid (H0.out.below bn);have G1 := hid (gr_trans G0.out (xjb bn (some q)));clear bn H0 G0;have ht0 := H1.out.pk.2.1;rw [hp.out] at ht0;dsimp only at ht0;have hz0 : X0.size ≤ 5000 := by omega
  clear hS0 ht0;go_wp2_with fail
  refine (pRead_s H1.out hp.out HX0.out.symm).mono ?_;rintro e w2 ⟨rfl, h2, hg⟩;have H2 := hid h2;have G2 := hid (gr_trans G1.out hg);clear h2 hg H1 G1;have hl1 := ywz H2.out 2;have hS1 := xqh (yza en 2 (rdS st));rw [HX1t.out] at hS1;have hz1 : X1.size ≤ 5000 := by omega
  clear hS1 hl1;go_wp2_with fail
  refine (yvz H2.out 2 HX1t.out).mono ?_;rintro e w3 ⟨rfl, h2, hg⟩;have H3 := hid h2;have G3 := hid (gr_trans G2.out hg);clear h2 hg H2 G2;cases hs2 : xqp 3 [47] (xwp en 2 (rdS st)).l with
  | true =>
   have Hs2 := hid hs2;clear hs2;obtain ⟨⟨kb, tb, ab⟩, hpb⟩ : ∃ t, t = pkS (xwp en 2 (rdS st)) := ⟨_, rfl⟩;replace hpb := hid hpb.symm;obtain ⟨Xb, hXb⟩ : ∃ X, X = strOf tb := ⟨_, rfl⟩;have hSb := xqh tb;rw [← hXb] at hSb;have HXb := hid hXb;obtain ⟨X3, hX3⟩ : ∃ X, X = strOf (yza en 2 (rdS (xwp en 2 (rdS st)))) := ⟨_, rfl⟩;have HX3 := hid hX3;have hS3 := xqh (yza en 2 (rdS (xwp en 2 (rdS st))));rw [← hX3] at hS3;clear hXb hX3;have hfb := fun W => (xwt (kb : Int) Xb (ab : Int) W).2.1
   go_wp2_with fail
   refine (xji H3.out 47 (by decide) _ Hs2.out).mono ?_;rintro e w4 ⟨rfl, bn⟩;have H4 := hid (H3.out.below bn);have G4 := hid (gr_trans G3.out (xjb bn (some q)));clear bn;have htb := H4.out.pk.2.1;rw [hpb.out] at htb;dsimp only at htb;have hzb : Xb.size ≤ 5000 := by omega
   clear hSb htb;go_wp2_with fail
   refine (pRead_s H4.out hpb.out HXb.out.symm).mono ?_;rintro e w5 ⟨rfl, h2, hg⟩;have H5 := hid h2;have G5 := hid (gr_trans G4.out hg);clear h2 hg;have hl3 := ywz H5.out 2;have hz3 : X3.size ≤ 5000 := by omega
   clear hS3 hl3;go_wp2_with fail
   refine (yvz H5.out 2 HX3.out.symm).mono ?_;rintro e w6 ⟨rfl, h2, hg⟩;have H6 := hid h2;have G6 := hid (gr_trans G5.out hg);clear h2 hg;have hx2 : strOf (yw3 en st) = X0 ++ X1 ++ (Xb ++ X3) ∧ yz8 en st = xwp en 2 (rdS (xwp en 2 (rdS st))) := by
    unfold yw3 yz8 numbX yv2;rw [Hs.out];simp only [if_true];rw [Hs2.out];simp only [if_true];refine ⟨?_, trivial⟩;rw [hp.out, yvx, yvx, yvx, hpb.out, HX1t.out, ← HX3.out, ← HXb.out, ← HX0.out, ByteArray.append_assoc]
   have Hx2 := hid hx2;clear hx2;go_wp2
   go_ret
   rw [Hx2.out.1, Hx2.out.2];exact ⟨rfl, H6.out, G6.out⟩
  | false =>
   have Hs2 := hid hs2;clear hs2;have hx2 : strOf (yw3 en st) = X0 ++ X1 ∧ yz8 en st = xwp en 2 (rdS st) := by
    unfold yw3 yz8 numbX yv2;rw [Hs.out];simp only [if_true];rw [Hs2.out];simp only [Bool.false_eq_true, if_false];exact ⟨by rw [hp.out, yvx, HX1t.out, ← HX0.out], trivial⟩
   have Hx2 := hid hx2;clear hx2;go_wp2_with fail
   refine (xji H3.out 47 (by decide) _ Hs2.out).mono ?_;rintro e w4 ⟨rfl, bn⟩;have H4 := hid (H3.out.below bn);have G4 := hid (gr_trans G3.out (xjb bn (some q)));clear bn;go_wp2
   go_ret
   rw [Hx2.out.1, Hx2.out.2];exact ⟨rfl, H4.out, G4.out⟩
 | false =>
  have Hs := hid hs;clear hs;obtain ⟨x1, hx1⟩ : ∃ x, x = yza en 2 (st) := ⟨_, rfl⟩;have Hx1 := hid hx1;obtain ⟨X1, hX1⟩ : ∃ X, X = strOf x1 := ⟨_, rfl⟩;have HX1 := hid hX1;have HX1t : Hid (strOf (yza en 2 (st)) = X1) := by show _ = _; rw [← hx1, ← hX1]
  clear hx1 hX1;go_enter Tryz.func113, Tryz.ntmps113;go_wp2_with fail
  refine (xji H0.out 45 (by decide) _ Hs.out).mono ?_;rintro e w1 ⟨rfl, bn⟩;have H1 := hid (H0.out.below bn);have G1 := hid (gr_trans G0.out (xjb bn (some q)));clear bn H0 G0;have hl1 := ywz H1.out 2;have hS1 := xqh (yza en 2 (st));rw [HX1t.out] at hS1;have hz1 : X1.size ≤ 5000 := by omega
  clear hS1 hl1;go_wp2_with fail
  refine (yvz H1.out 2 HX1t.out).mono ?_;rintro e w2 ⟨rfl, h2, hg⟩;have H2 := hid h2;have G2 := hid (gr_trans G1.out hg);clear h2 hg H1 G1;cases hs2 : xqp 3 [47] (xwp en 2 (st)).l with
  | true =>
   have Hs2 := hid hs2;clear hs2;obtain ⟨⟨kb, tb, ab⟩, hpb⟩ : ∃ t, t = pkS (xwp en 2 (st)) := ⟨_, rfl⟩;replace hpb := hid hpb.symm;obtain ⟨Xb, hXb⟩ : ∃ X, X = strOf tb := ⟨_, rfl⟩;have hSb := xqh tb;rw [← hXb] at hSb;have HXb := hid hXb;obtain ⟨X3, hX3⟩ : ∃ X, X = strOf (yza en 2 (rdS (xwp en 2 (st)))) := ⟨_, rfl⟩;have HX3 := hid hX3;have hS3 := xqh (yza en 2 (rdS (xwp en 2 (st))));rw [← hX3] at hS3;clear hXb hX3;have hfb := fun W => (xwt (kb : Int) Xb (ab : Int) W).2.1
   go_wp2_with fail
   refine (xji H2.out 47 (by decide) _ Hs2.out).mono ?_;rintro e w3 ⟨rfl, bn⟩;have H3 := hid (H2.out.below bn);have G3 := hid (gr_trans G2.out (xjb bn (some q)));clear bn;have htb := H3.out.pk.2.1;rw [hpb.out] at htb;dsimp only at htb;have hzb : Xb.size ≤ 5000 := by omega
   clear hSb htb;go_wp2_with fail
   refine (pRead_s H3.out hpb.out HXb.out.symm).mono ?_;rintro e w4 ⟨rfl, h2, hg⟩;have H4 := hid h2;have G4 := hid (gr_trans G3.out hg);clear h2 hg;have hl3 := ywz H4.out 2;have hz3 : X3.size ≤ 5000 := by omega
   clear hS3 hl3;go_wp2_with fail
   refine (yvz H4.out 2 HX3.out.symm).mono ?_;rintro e w5 ⟨rfl, h2, hg⟩;have H5 := hid h2;have G5 := hid (gr_trans G4.out hg);clear h2 hg;have hx2 : strOf (yw3 en st) = X1 ++ (Xb ++ X3) ∧ yz8 en st = xwp en 2 (rdS (xwp en 2 (st))) := by
    unfold yw3 yz8 numbX yv2;rw [Hs.out];simp only [Bool.false_eq_true, if_false];rw [Hs2.out];simp only [if_true];refine ⟨?_, trivial⟩;rw [yvx, yvx, hpb.out, HX1t.out, ← HX3.out, ← HXb.out]
   have Hx2 := hid hx2;clear hx2;go_wp2
   go_ret
   rw [Hx2.out.1, Hx2.out.2];exact ⟨rfl, H5.out, G5.out⟩
  | false =>
   have Hs2 := hid hs2;clear hs2;have hx2 : strOf (yw3 en st) = X1 ∧ yz8 en st = xwp en 2 (st) := by
    unfold yw3 yz8 numbX yv2;rw [Hs.out];simp only [Bool.false_eq_true, if_false];rw [Hs2.out];simp only [Bool.false_eq_true, if_false];exact ⟨by rw [HX1t.out], trivial⟩
   have Hx2 := hid hx2;clear hx2;go_wp2_with fail
   refine (xji H2.out 47 (by decide) _ Hs2.out).mono ?_;rintro e w3 ⟨rfl, bn⟩;have H3 := hid (H2.out.below bn);have G3 := hid (gr_trans G2.out (xjb bn (some q)));clear bn;go_wp2
   go_ret
   rw [Hx2.out.1, Hx2.out.2];exact ⟨rfl, H3.out, G3.out⟩
end
end Go.Proofs.YtannifhcjcbkcaaGreatDoor
