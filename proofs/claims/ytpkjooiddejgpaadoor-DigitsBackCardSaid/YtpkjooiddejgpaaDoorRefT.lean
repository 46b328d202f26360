/- What the reference's at, Trim and Add of layer 1 come to, as contracts over memory. Conditions: arguments read as limbs, of at most 10^8 of them. -/
import Derived.Test.YtpkjooiddejgpaaDoorNatK
namespace Go.Proofs.YtpkjooiddejgpaaDoor
open Go.RowKit Limb
set_option linter.unusedVariables false

theorem refAt_any (A : Option Addr) (n c : Nat) (xs : List Nat) (i : Int) (w : World) (hx : IsN w A n xs) (hm : n ≤ 1000000000) (h0 : 0 ≤ i) (h1 : i ≤ 9223372036854775807) :
    Calls Tryd.prog 40 #[.slice A n c, .int .i64 i] w fun e w' => e = .returned (.int .u64 ((lim xs i.toNat : Nat) : Int)) ∧ w = w' := by
  obtain ⟨i, rfl⟩ := Int.eq_ofNat_of_zero_le h0
  rw [Int.toNat_natCast]
  have hl := hx.len
  by_cases hi : i < n
  · obtain ⟨b, o, hA, hb1, hcell⟩ := hx.2.2 (by omega)
    subst hA
    have h2 := hcell i hi
    have hlt32 := lim_lt hx.small i
    go_enter Tryd.func40, Tryd.ntmps40
    go_wp2
    go_ret
    exact ⟨rfl, rfl⟩
  · have H := Lib.hid (lim_of_ge (xs := xs) (k := i) (by omega))
    have hi' : (n : Int) ≤ (i : Int) := by omega
    go_enter Tryd.func40, Tryd.ntmps40
    go_wp2
    go_ret
    exact ⟨by rw [H.out]; rfl, rfl⟩

set_option maxHeartbeats 400000 in
theorem refTrim_any (A : Option Addr) (n c : Nat) (xs : List Nat) (w : World) (hx : IsN w A n xs) (hc : n ≤ c) (hm : n ≤ 1000000000) :
    Calls Tryd.prog 25 #[.slice A n c] w fun e w' => ∃ A2 n2 c2, e = .returned (.slice A2 n2 c2) ∧ OwnN w' w.heap.size A2 n2 c2 (trim xs) ∧ Below w.heap.size w w' := by
  have hl := hx.len
  go_enter Tryd.func25, Tryd.ntmps25
  go_wp2
  go_loop [3] (fun i => ∃ k : Nat, k ≤ n ∧ i = .int .i64 k ∧ trim (xs.take k) = trim xs) (fun i => (intOf i).toNat)
  case atStart => exact ⟨n, Nat.le_refl _, rfl, by rw [List.take_of_length_le (by omega)]⟩
  case round =>
    obtain ⟨k, hk, rfl, ht⟩ := hrel
    by_cases hgo : 0 < k ∧ lim xs (k - 1) = 0
    · obtain ⟨hk0, hz⟩ := hgo
      obtain ⟨b, o, rfl, hb, hcell⟩ := hx.2.2 (by omega)
      have h1 := hcell (k - 1) (by omega)
      have h2 : trim (xs.take k) = trim (xs.take (k - 1)) := by
        have := trim_take_last (xs := xs) (k := k - 1) (by omega) hz
        rwa [Nat.sub_add_cancel (by omega)] at this
      have H2 := Lib.hid (h2.symm.trans ht)
      clear h2 ht
      rw [hz] at h1
      clear hz
      go_wp2
      go_round
      case rel => exact ⟨k - 1, by omega, by go_num, H2.out⟩
      case measure => simp [intOf]; omega
    · have h2 : trim xs = xs.take k := by
        rw [← ht]
        by_cases hk0 : k = 0
        · subst hk0; rfl
        · have := trim_take_full (xs := xs) (k := k - 1) (by omega) (fun h => hgo ⟨by omega, h⟩)
          rwa [Nat.sub_add_cancel (by omega)] at this
      have H2 := Lib.hid h2
      have hx2 := IsN.take hx hk
      have b0 := below_new w (.cells #[] 39)
      have Hx : RowKit.Hid (NN (w.alloc (.cells #[] 39)) A k c (xs.take k) (val (xs.take k)) 1000000000) := NN.below ⟨hx2, rfl, by omega, by omega⟩ b0
      have Hown : RowKit.Hid ((w.alloc (.cells #[] 39)).ownsRow w.heap.size 39 1 (.slice (some ⟨w.heap.size, 0, none⟩) 0 0) 0 (([] : List Nat).map limV)) := own_lit w [] 0 rfl (by omega)
      have Hb : RowKit.Hid (0 ≤ 1000000000 ∧ 1000000000 ≤ 1000000000 ∧ w.heap.size ≤ (w.alloc (.cells #[] 39)).heap.size ∧ Small []) := ⟨by omega, by omega, by simp, small_nil⟩
      clear hx2 b0
      by_cases hk0 : k = 0
      · subst hk0
        clear h2 ht
        go_wp2_with (at_builtin; refine wpList_append_nat rfl _ _ rfl w.heap.size _ 0 [] rfl Hown A 0 c (xs.take 0) (val (xs.take 0)) 1000000000 rfl Hx Hb ?_)
        intro A2 c2 w' how hgrow
        have hb2 := below_lit hgrow.out (Nat.le_refl _)
        have hn : OwnN w' w.heap.size A2 0 c2 (trim xs) := by
          rw [H2.out]
          exact how.out
        clear how hgrow Hown Hb Hx
        go_wp2
        go_ret
        exact ⟨_, _, _, rfl, hn, hb2⟩
      · obtain ⟨b, o, rfl, hb, hcell⟩ := hx.2.2 (by omega)
        have h1 := hcell (k - 1) (by omega)
        have hlt := lim_lt hx.small (k - 1)
        have hz' : (((lim xs (k - 1) : Nat) : Int) == 0) = false := by simp; exact fun h => hgo ⟨by omega, h⟩
        clear hgo h2 ht
        go_wp2_with (at_builtin; refine wpList_append_nat rfl _ _ rfl w.heap.size _ 0 [] rfl Hown (some ⟨b, o, none⟩) k c (xs.take k) (val (xs.take k)) 1000000000 rfl Hx Hb ?_)
        intro A2 c2 w' how hgrow
        have hb2 := below_lit hgrow.out (Nat.le_refl _)
        have hn : OwnN w' w.heap.size A2 k c2 (trim xs) := by
          rw [H2.out]
          exact how.out
        clear how hgrow Hown Hb Hx
        go_wp2
        go_ret
        exact ⟨_, _, _, rfl, hn, hb2⟩

/-- A sum that the reference makes limb by limb: the limbs made so far, and what goes on. -/
def RAdd (xs ys zs : List Nat) (k cr : Nat) : Prop := zs.length = k ∧ Small zs ∧ val zs + cr * 4294967296 ^ k = val (xs.take k) + val (ys.take k) ∧ cr ≤ 1

theorem RAdd.start (xs ys : List Nat) : RAdd xs ys [] 0 0 := ⟨rfl, small_nil, by simp [val], by omega⟩
theorem RAdd.step {xs ys zs : List Nat} {k cr : Nat} (h : RAdd xs ys zs k cr) (hx : Small xs) (hy : Small ys) : RAdd xs ys (zs ++ [(lim xs k + lim ys k + cr) % 4294967296]) (k + 1) ((lim xs k + lim ys k + cr) / 4294967296) := by
  obtain ⟨h1, h2, h3, h4⟩ := h
  refine ⟨by simp [h1], small_append.2 ⟨h2, by intro v hv; simp at hv; omega⟩, ?_, ?_⟩
  · rw [val_append, h1, val_take_lim, val_take_lim, Nat.pow_succ]
    have := add_step (z := lim xs k) (y := lim ys k) (c := cr) (P := 4294967296 ^ k) h3
    simp only [val, Nat.mul_zero, Nat.add_zero]
    omega
  · have := lim_lt hx k
    have := lim_lt hy k
    omega
theorem RAdd.done {xs ys zs : List Nat} {k : Nat} (h : RAdd xs ys zs k 0) (hx : xs.length ≤ k) (hy : ys.length ≤ k) : val zs = val xs + val ys := by
  obtain ⟨h1, h2, h3, h4⟩ := h
  rw [List.take_of_length_le hx, List.take_of_length_le hy] at h3
  omega

/-- The same, with the word that it is a row of the call's own. -/
theorem refTrim_o {A : Option Addr} {n c : Nat} {xs : List Nat} {a L : Nat} {w : World} (hx : NN w A n c xs a L) (h1 : L ≤ 1000000000) :
    Calls Tryd.prog 25 #[.slice A n c] w fun e w' => ∃ A2 n2 c2, e = .returned (.slice A2 n2 c2) ∧ OwnN w' w.heap.size A2 n2 c2 (limbs a) ∧ Below w.heap.size w w' := by
  refine (refTrim_any A n c xs w hx.isN hx.cap (by have := hx.le; omega)).mono ?_
  rintro e w' ⟨A2, n2, c2, rfl, how, hb⟩
  rw [limbs_of_NN hx] at how
  exact ⟨A2, n2, c2, rfl, how, hb⟩

theorem refTrim_c {A : Option Addr} {n c : Nat} {xs : List Nat} {a L : Nat} {w : World} (hx : NN w A n c xs a L) (h1 : L ≤ 1000000000) :
    Calls Tryd.prog 25 #[.slice A n c] w fun e w' => ∃ A2 n2 c2, e = .returned (.slice A2 n2 c2) ∧ NN w' A2 n2 c2 (limbs a) a L ∧ Below w.heap.size w w' := by
  refine (refTrim_any A n c xs w hx.isN hx.cap (by have := hx.le; omega)).mono ?_
  rintro e w' ⟨A2, n2, c2, rfl, how, hb⟩
  rw [limbs_of_NN hx] at how
  exact ⟨A2, n2, c2, rfl, NN.own how (lt_pow hx), hb⟩

theorem refAt_c {A : Option Addr} {n c : Nat} {xs : List Nat} {a L : Nat} {w : World} (hx : NN w A n c xs a L) (h1 : L ≤ 1000000000) (k : Nat) (hk : k ≤ 9000000000000000000) :
    Calls Tryd.prog 40 #[.slice A n c, .int .i64 (k : Int)] w fun e w' => e = .returned (.int .u64 ((lim xs k : Nat) : Int)) ∧ w = w' := by
  have := refAt_any A n c xs (k : Int) w hx.isN (by have := hx.le; omega) (by omega) (by omega)
  rwa [Int.toNat_natCast] at this

/-- A row that may grow: limbs of the call's own, nil too. -/
theorem OwnN.row {w : World} {B : Nat} {A : Option Addr} {n c : Nat} {zs : List Nat} (h : OwnN w B A n c zs) : w.ownsRow B 39 1 (.slice A n c) n (zs.map limV) := h.1

theorem OwnN.alloc {w : World} {B : Nat} {A : Option Addr} {n c : Nat} {zs : List Nat} (h : OwnN w B A n c zs) (o : Obj) : OwnN (w.alloc o) B A n c zs := ⟨h.1.alloc o, h.2⟩

/-- What an append to a row of the call's own leaves of what was there before the call. -/
theorem below_grown {w0 w w' : World} {A : Option Addr} {n c : Nat} {zs : List Nat} {o : Obj} (hb : Below w0.heap.size w0 w) (how : OwnN w w0.heap.size A n c zs) (hg : (w.alloc o).grownBy w' (Value.ownBlock (.slice A n c))) : Below w0.heap.size w0 w' :=
  (hb.alloc hb.size o).grown hg (by have := hb.size; simp; omega) (fun k hk => (how.1.lt k hk).1)

set_option maxHeartbeats 800000 in
theorem refAdd_c {A A' : Option Addr} {n c n' c' : Nat} {xs ys : List Nat} {a b L L' : Nat} {w : World} (hx : NN w A n c xs a L) (hy : NN w A' n' c' ys b L') (h1 : L ≤ 100000000) (h2 : L' ≤ 100000000) :
    Calls Tryd.prog 23 #[.slice A n c, .slice A' n' c'] w fun e w' => ∃ A2 n2 c2, e = .returned (.slice A2 n2 c2) ∧ NN w' A2 n2 c2 (limbs (a + b)) (a + b) (L + L' + 1) ∧ Below w.heap.size w w' := by
  have hle := hx.le
  have hle' := hy.le
  have hlx := hx.isN.len
  have hly := hy.isN.len
  have Hlx := Lib.hid hlx
  have Hly := Lib.hid hly
  clear hlx hly
  go_enter Tryd.func23, Tryd.ntmps23
  go_wp2
  go_loopw [7, 6, 5] (fun i cy v wr => ∃ (k cr : Nat) (zs : List Nat) (A2 : Option Addr) (c2 : Nat), k ≤ n + n' + 1 ∧ (n < k → n' < k → cr = 0) ∧ i = .int .i64 (k : Int) ∧ cy = .int .u64 (cr : Int) ∧ v = .slice A2 k c2 ∧ RAdd xs ys zs k cr ∧ OwnN wr w.heap.size A2 k c2 zs ∧ Below w.heap.size w wr) (fun i _ _ _ => n + n' + 2 - (intOf i).toNat)
  case atStart => exact ⟨0, 0, [], none, 0, by omega, fun h => by omega, rfl, rfl, rfl, RAdd.start _ _, OwnN.nil _ _, Below.refl _ _⟩
  case round =>
    obtain ⟨k, cr, zs, A2, c2, hk, hkc, rfl, rfl, rfl, hinv, how, bw⟩ := hrel
    have Hinv := Lib.hid hinv
    have hcr := hinv.2.2.2
    have Hkc := Lib.hid hkc
    clear hinv hkc
    have h_x := hx.below bw
    have h_y := hy.below bw
    by_cases hgo : k < n ∨ k < n' ∨ 0 < cr
    · have hk1 : k ≤ n + n' := by
        rcases hgo with h | h | h
        · omega
        · omega
        · have := Hkc.out; omega
      have b1 := lim_lt hx.isN.small k
      have b2 := lim_lt hy.isN.small k
      obtain ⟨sl, hsl⟩ : ∃ sl, sl = (lim xs k + lim ys k + cr) % 4294967296 := ⟨_, rfl⟩
      obtain ⟨sh, hsh⟩ : ∃ sh, sh = (lim xs k + lim ys k + cr) / 4294967296 := ⟨_, rfl⟩
      have es : ((cr : Int) + (((lim xs k : Nat) : Int) + ((lim ys k : Nat) : Int))) % 4294967296 = ((sl : Nat) : Int) := by omega
      have eh : ((cr : Int) + (((lim xs k : Nat) : Int) + ((lim ys k : Nat) : Int))) / 4294967296 = ((sh : Nat) : Int) := by omega
      have hsl2 : sl < 4294967296 := by omega
      have hkc2 : n < k + 1 → n' < k + 1 → sh = 0 := by
        intro p q
        rw [hsh, lim_of_ge (xs := xs) (by rw [Hlx.out]; omega), lim_of_ge (xs := ys) (by rw [Hly.out]; omega)]
        omega
      have Hkc2 := Lib.hid hkc2
      have Hst : RowKit.Hid (RAdd xs ys (zs ++ [sl]) (k + 1) sh) := by
        show RAdd _ _ _ _ _
        rw [hsl, hsh]; exact Hinv.out.step hx.isN.small hy.isN.small
      have Hown : RowKit.Hid ((wr.alloc (.cells #[Value.int IntKind.u32 (sl : Int)] 39)).ownsRow w.heap.size 39 1 (.slice A2 k c2) k (zs.map limV)) := (how.alloc _).row
      have Hlit : RowKit.Hid (NN (wr.alloc (.cells #[Value.int IntKind.u32 (sl : Int)] 39)) (some ⟨wr.heap.size, 0, none⟩) 1 1 [sl] (val [sl]) 1) := lit_c wr [sl] (by intro x hx; simp at hx; omega) 1 rfl
      have Hb : RowKit.Hid (k ≤ 1000000000 ∧ 1 ≤ 1000000000 ∧ w.heap.size ≤ (wr.alloc (.cells #[Value.int IntKind.u32 (sl : Int)] 39)).heap.size ∧ Small zs) := ⟨by omega, by omega, by have := bw.size; simp; omega, how.small⟩
      have How := Lib.hid how
      have Hbw := Lib.hid bw
      clear hkc2 hsl hsh hsl2 how bw
      rcases (show k < n ∨ (¬ k < n ∧ k < n') ∨ (¬ k < n ∧ ¬ k < n' ∧ 0 < cr) by omega) with h | ⟨h, h'⟩ | ⟨h, h', h''⟩
      all_goals
        clear hgo
        go_wp2_with fail
        refine (refAt_c h_x (by omega) k (by omega)).mono ?_
        rintro e w1 ⟨rfl, rfl⟩
        go_wp2_with fail
        refine (refAt_c h_y (by omega) k (by omega)).mono ?_
        rintro e w1 ⟨rfl, rfl⟩
        go_wp2_with (at_builtin; refine wpList_append_nat rfl _ _ rfl w.heap.size _ k zs rfl Hown (some ⟨wr.heap.size, 0, none⟩) 1 1 [sl] (val [sl]) 1 rfl Hlit Hb ?_)
        intro A3 c3 w3 how3 hg3
        have bw3 := below_grown Hbw.out How.out hg3.out
        have How3 := how3.out
        clear how3 hg3 Hown Hlit Hb How Hbw
        go_wp2
        go_roundw
        case rel => exact ⟨k + 1, sh, zs ++ [sl], A3, c3, by omega, Hkc2.out, by go_num, rfl, rfl, Hst.out, How3, bw3⟩
        case measure => simp [intOf]; omega
    · obtain rfl : cr = 0 := by omega
      have hv : val zs = a + b := by
        rw [Hinv.out.done (by rw [Hlx.out]; omega) (by rw [Hly.out]; omega), hx.val, hy.val]
      have hz : NN wr A2 k c2 zs (a + b) (L + L' + 1) := ⟨how.isN, hv, how.caps.1, by omega⟩
      have e1 : ¬ k < n := by omega
      have e2 : ¬ k < n' := by omega
      clear hgo hv how
      go_wp2_with fail
      refine (refTrim_c hz (by omega)).mono ?_
      rintro e w4 ⟨A4, n4, c4, rfl, h4, bn⟩
      go_wp2
      go_ret
      exact ⟨_, _, _, rfl, h4, below_two bw bn⟩

end Go.Proofs.YtpkjooiddejgpaaDoor
