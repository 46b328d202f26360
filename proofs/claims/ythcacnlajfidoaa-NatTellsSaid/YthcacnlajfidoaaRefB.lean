/- What the document's own answers for layer 1 (package steelyardref01) come to, as contracts over memory: Bit, Bits, Add, Sub. Conditions: arguments read as limbs, of at most 10^8 of them; a difference is asked of a number that is not below. -/
import Derived.Test.YthcacnlajfidoaaRefA
namespace Go.Proofs.Ythcacnlajfidoaa
open Go.RowKit Limb
set_option linter.unusedVariables false

theorem bit_of64 (t k : Nat) (ht : t < 4294967296) : (bits BinOp.and IntKind.u64 ((t : Int) / 2 ^ k) 1 == 1) = t.testBit k := by
  have e : (t : Int) / 2 ^ k = ((t / 2 ^ k : Nat) : Int) := by simp
  have h1 : t / 2 ^ k < 4294967296 := Nat.lt_of_le_of_lt (Nat.div_le_self _ _) ht
  have h2 := u64_and_nat (t / 2 ^ k) 1 (by omega) (by decide)
  rw [e, show (1 : Int) = ((1 : Nat) : Int) from rfl, h2, Nat.and_one_is_mod, Nat.testBit_eq_decide_div_mod_eq]
  rw [Bool.eq_iff_iff]
  simp
  omega

set_option maxHeartbeats 400000 in
theorem refBit_any (A : Option Addr) (n c : Nat) (xs : List Nat) (i : Int) (w : World) (hx : IsN w A n xs) (hm : n ≤ 1000000000) (h0 : 0 ≤ i) (h1 : i ≤ 9223372036854775807) :
    Calls Try.prog 21 #[.slice A n c, .int .i64 i] w fun e w' => e = .returned (.bool ((val xs).testBit i.toNat)) ∧ w = w' := by
  have H := Lib.hid (testBit_lim xs hx.small i.toNat)
  obtain ⟨i, rfl⟩ := Int.eq_ofNat_of_zero_le h0
  rw [Int.toNat_natCast] at H ⊢
  have hat : ∀ w' : World, w = w' → Calls Try.prog 29 #[.slice A n c, .int .i64 ((i : Int) / 32)] w' fun e w2 => e = .returned (.int .u64 ((lim xs (i / 32) : Nat) : Int)) ∧ w' = w2 := by
    rintro w' rfl
    have := refAt_any A n c xs ((i : Int) / 32) w hx hm (by omega) (by omega)
    rwa [show ((i : Int) / 32).toNat = i / 32 by omega] at this
  have Hat := Lib.hid hat
  clear hat
  have hlt := lim_lt hx.small (i / 32)
  go_enter Try.func21, Try.ntmps21
  go_wp2_with fail
  refine (Hat.out _ rfl).mono ?_
  rintro e w1 ⟨rfl, rfl⟩
  go_wp2
  go_ret
  refine ⟨ret_bool ?_, rfl⟩
  rw [H.out]
  exact bit_of64 _ _ hlt

theorem refBit_c {A : Option Addr} {n c : Nat} {xs : List Nat} {a L : Nat} {w : World} (hx : NN w A n c xs a L) (h1 : L ≤ 1000000000) (i : Int) (h2 : 0 ≤ i) (h3 : i ≤ 9223372036854775807) (v : Bool) (hv : a.testBit i.toNat = v) :
    Calls Try.prog 21 #[.slice A n c, .int .i64 i] w fun e w' => e = .returned (.bool v) ∧ w = w' := by
  have := refBit_any A n c xs i w hx.isN (by have := hx.le; omega) h2 h3
  rwa [hx.val, hv] at this

theorem blen_of_bit {n k : Nat} (h : blen n ≤ k) (hk : k ≠ 0) (hb : n.testBit (k - 1) = true) : blen n = k := by
  have h1 := Nat.ge_two_pow_of_testBit hb
  have h2 := blen_lt n
  have h3 : k - 1 < blen n := (Nat.pow_lt_pow_iff_right (show 1 < 2 by decide)).1 (Nat.lt_of_le_of_lt h1 h2)
  omega

theorem blen_of_nobit {n k : Nat} (h : blen n ≤ k) (hk : k ≠ 0) (hb : n.testBit (k - 1) = false) : blen n ≤ k - 1 := by
  by_cases h0 : n = 0
  · subst h0; rw [blen_zero]; omega
  · have h1 := blen_top h0
    refine Classical.byContradiction fun hn => ?_
    have : blen n - 1 = k - 1 := by omega
    rw [this, hb] at h1
    cases h1

set_option maxHeartbeats 400000 in
theorem refBits_c {A : Option Addr} {n c : Nat} {xs : List Nat} {a L : Nat} {w : World} (hx : NN w A n c xs a L) (h1 : L ≤ 100000000) (v : Int) (hv : ((blen a : Nat) : Int) = v) :
    Calls Try.prog 19 #[.slice A n c] w fun e w' => e = .returned (.int .i64 v) ∧ w = w' := by
  subst hv
  have hb : blen a ≤ 32 * n := by
    have h := blen_NN (L := n) ⟨hx.isN, hx.val, hx.cap, Nat.le_refl _⟩
    exact h
  have hle := hx.le
  go_enter Try.func19, Try.ntmps19
  go_wp2
  go_loop [3] (fun i => ∃ k : Nat, k ≤ 32 * n ∧ i = .int .i64 k ∧ blen a ≤ k) (fun i => (intOf i).toNat)
  case atStart => exact ⟨32 * n, Nat.le_refl _, by simp, hb⟩
  case round =>
    obtain ⟨k, hk, rfl, hbk⟩ := hrel
    by_cases hk0 : k = 0
    · subst hk0
      have e : RowKit.Hid (blen a = 0) := by show _ = _; omega
      go_wp2
      go_ret
      exact ⟨by rw [e.out]; rfl, rfl⟩
    · have ek : ((k : Int) - 1).toNat = k - 1 := by omega
      have Ek := Lib.hid ek
      clear ek
      by_cases ht : a.testBit (k - 1) = true
      · have e := Lib.hid (blen_of_bit hbk hk0 ht)
        have Ht := Lib.hid ht
        clear ht
        go_wp2_with fail
        refine (refBit_c hx (by omega) _ (by omega) (by omega) true (by rw [Ek.out]; exact Ht.out)).mono ?_
        rintro e w1 ⟨rfl, rfl⟩
        go_wp2
        go_ret
        exact ⟨by rw [e.out]; rfl, rfl⟩
      · have ht : a.testBit (k - 1) = false := by simpa using ht
        have hb2 := blen_of_nobit hbk hk0 ht
        have Ht := Lib.hid ht
        clear ht
        go_wp2_with fail
        refine (refBit_c hx (by omega) _ (by omega) (by omega) false (by rw [Ek.out]; exact Ht.out)).mono ?_
        rintro e w1 ⟨rfl, rfl⟩
        go_wp2
        go_round
        case rel => exact ⟨k - 1, by omega, by go_num, hb2⟩
        case measure => simp [intOf]; omega

/-- A sum that the reference makes limb by limb: the limbs made so far, and what goes on. -/
def RAdd (xs ys zs : List Nat) (k cr : Nat) : Prop := zs.length = k ∧ Small zs ∧ val zs + cr * 4294967296 ^ k = val (xs.take k) + val (ys.take k) ∧ cr ≤ 1

theorem RAdd.start (xs ys : List Nat) : RAdd xs ys [] 0 0 := ⟨rfl, small_nil, by simp [val], by omega⟩
theorem RAdd.step {xs ys zs : List Nat} {k cr : Nat} (h : RAdd xs ys zs k cr) (hx : Small xs) (hy : Small ys) : RAdd xs ys (zs ++ [(lim xs k + lim ys k + cr) % 4294967296]) (k + 1) ((lim xs k + lim ys k + cr) / 4294967296) := by
  obtain ⟨h1, h2, h3, h4⟩ := h
  refine ⟨by simp [h1], small_append.2 ⟨h2, by intro v hv; simp at hv; omega⟩, ?_, ?_⟩
  · rw [val_append, h1, val_take_lim, val_take_lim, Nat.pow_succ]
    have := add_step (z := lim xs k) (y := lim ys k) (c := cr) (P := 4294967296 ^ k) h3
    simp only [val, Nat.mul_zero, Nat.add_zero]
    omega
  · have := lim_lt hx k
    have := lim_lt hy k
    omega
theorem RAdd.done {xs ys zs : List Nat} {k : Nat} (h : RAdd xs ys zs k 0) (hx : xs.length ≤ k) (hy : ys.length ≤ k) : val zs = val xs + val ys := by
  obtain ⟨h1, h2, h3, h4⟩ := h
  rw [List.take_of_length_le hx, List.take_of_length_le hy] at h3
  omega

theorem refTrim_c {A : Option Addr} {n c : Nat} {xs : List Nat} {a L : Nat} {w : World} (hx : NN w A n c xs a L) (h1 : L ≤ 1000000000) :
    Calls Try.prog 23 #[.slice A n c] w fun e w' => ∃ A2 n2 c2, e = .returned (.slice A2 n2 c2) ∧ NN w' A2 n2 c2 (limbs a) a L ∧ Below w.heap.size w w' := by
  refine (refTrim_any A n c xs w hx.isN hx.cap (by have := hx.le; omega)).mono ?_
  rintro e w' ⟨A2, n2, c2, rfl, how, hb⟩
  rw [limbs_of_NN hx] at how
  exact ⟨A2, n2, c2, rfl, NN.own how (lt_pow hx), hb⟩

theorem refAt_c {A : Option Addr} {n c : Nat} {xs : List Nat} {a L : Nat} {w : World} (hx : NN w A n c xs a L) (h1 : L ≤ 1000000000) (k : Nat) (hk : k ≤ 9000000000000000000) :
    Calls Try.prog 29 #[.slice A n c, .int .i64 (k : Int)] w fun e w' => e = .returned (.int .u64 ((lim xs k : Nat) : Int)) ∧ w = w' := by
  have := refAt_any A n c xs (k : Int) w hx.isN (by have := hx.le; omega) (by omega) (by omega)
  rwa [Int.toNat_natCast] at this

/-- A row that may grow: limbs of the call's own, nil too. -/
theorem OwnN.row {w : World} {B : Nat} {A : Option Addr} {n c : Nat} {zs : List Nat} (h : OwnN w B A n c zs) : w.ownsRow B 39 1 (.slice A n c) n (zs.map limV) := h.1

theorem OwnN.alloc {w : World} {B : Nat} {A : Option Addr} {n c : Nat} {zs : List Nat} (h : OwnN w B A n c zs) (o : Obj) : OwnN (w.alloc o) B A n c zs := ⟨h.1.alloc o, h.2⟩

/-- What an append to a row of the call's own leaves of what was there before the call. -/
theorem below_grown {w0 w w' : World} {A : Option Addr} {n c : Nat} {zs : List Nat} {o : Obj} (hb : Below w0.heap.size w0 w) (how : OwnN w w0.heap.size A n c zs) (hg : (w.alloc o).grownBy w' (Value.ownBlock (.slice A n c))) : Below w0.heap.size w0 w' :=
  (hb.alloc hb.size o).grown hg (by have := hb.size; simp; omega) (fun k hk => (how.1.lt k hk).1)

set_option maxHeartbeats 800000 in
theorem refAdd_c {A A' : Option Addr} {n c n' c' : Nat} {xs ys : List Nat} {a b L L' : Nat} {w : World} (hx : NN w A n c xs a L) (hy : NN w A' n' c' ys b L') (h1 : L ≤ 100000000) (h2 : L' ≤ 100000000) :
    Calls Try.prog 17 #[.slice A n c, .slice A' n' c'] w fun e w' => ∃ A2 n2 c2, e = .returned (.slice A2 n2 c2) ∧ NN w' A2 n2 c2 (limbs (a + b)) (a + b) (L + L' + 1) ∧ Below w.heap.size w w' := by
  have hle := hx.le
  have hle' := hy.le
  have hlx := hx.isN.len
  have hly := hy.isN.len
  have Hlx := Lib.hid hlx
  have Hly := Lib.hid hly
  clear hlx hly
  go_enter Try.func17, Try.ntmps17
  go_wp2
  go_loopw [7, 6, 5] (fun i cy v wr => ∃ (k cr : Nat) (zs : List Nat) (A2 : Option Addr) (c2 : Nat), k ≤ n + n' + 1 ∧ (n < k → n' < k → cr = 0) ∧ i = .int .i64 (k : Int) ∧ cy = .int .u64 (cr : Int) ∧ v = .slice A2 k c2 ∧ RAdd xs ys zs k cr ∧ OwnN wr w.heap.size A2 k c2 zs ∧ Below w.heap.size w wr) (fun i _ _ _ => n + n' + 2 - (intOf i).toNat)
  case atStart => exact ⟨0, 0, [], none, 0, by omega, fun h => by omega, rfl, rfl, rfl, RAdd.start _ _, OwnN.nil _ _, Below.refl _ _⟩
  case round =>
    obtain ⟨k, cr, zs, A2, c2, hk, hkc, rfl, rfl, rfl, hinv, how, bw⟩ := hrel
    have Hinv := Lib.hid hinv
    have hcr := hinv.2.2.2
    have Hkc := Lib.hid hkc
    clear hinv hkc
    have h_x := hx.below bw
    have h_y := hy.below bw
    by_cases hgo : k < n ∨ k < n' ∨ 0 < cr
    · have hk1 : k ≤ n + n' := by
        rcases hgo with h | h | h
        · omega
        · omega
        · have := Hkc.out; omega
      have b1 := lim_lt hx.isN.small k
      have b2 := lim_lt hy.isN.small k
      obtain ⟨sl, hsl⟩ : ∃ sl, sl = (lim xs k + lim ys k + cr) % 4294967296 := ⟨_, rfl⟩
      obtain ⟨sh, hsh⟩ : ∃ sh, sh = (lim xs k + lim ys k + cr) / 4294967296 := ⟨_, rfl⟩
      have es : ((cr : Int) + (((lim xs k : Nat) : Int) + ((lim ys k : Nat) : Int))) % 4294967296 = ((sl : Nat) : Int) := by omega
      have eh : ((cr : Int) + (((lim xs k : Nat) : Int) + ((lim ys k : Nat) : Int))) / 4294967296 = ((sh : Nat) : Int) := by omega
      have hsl2 : sl < 4294967296 := by omega
      have hkc2 : n < k + 1 → n' < k + 1 → sh = 0 := by
        intro p q
        rw [hsh, lim_of_ge (xs := xs) (by rw [Hlx.out]; omega), lim_of_ge (xs := ys) (by rw [Hly.out]; omega)]
        omega
      have Hkc2 := Lib.hid hkc2
      have Hst : RowKit.Hid (RAdd xs ys (zs ++ [sl]) (k + 1) sh) := by
        show RAdd _ _ _ _ _
        rw [hsl, hsh]; exact Hinv.out.step hx.isN.small hy.isN.small
      have Hown : RowKit.Hid ((wr.alloc (.cells #[Value.int IntKind.u32 (sl : Int)] 39)).ownsRow w.heap.size 39 1 (.slice A2 k c2) k (zs.map limV)) := (how.alloc _).row
      have Hlit : RowKit.Hid (NN (wr.alloc (.cells #[Value.int IntKind.u32 (sl : Int)] 39)) (some ⟨wr.heap.size, 0, none⟩) 1 1 [sl] (val [sl]) 1) := lit_c wr [sl] (by intro x hx; simp at hx; omega) 1 rfl
      have Hb : RowKit.Hid (k ≤ 1000000000 ∧ 1 ≤ 1000000000 ∧ w.heap.size ≤ (wr.alloc (.cells #[Value.int IntKind.u32 (sl : Int)] 39)).heap.size ∧ Small zs) := ⟨by omega, by omega, by have := bw.size; simp; omega, how.small⟩
      have How := Lib.hid how
      have Hbw := Lib.hid bw
      clear hkc2 hsl hsh hsl2 how bw
      rcases (show k < n ∨ (¬ k < n ∧ k < n') ∨ (¬ k < n ∧ ¬ k < n' ∧ 0 < cr) by omega) with h | ⟨h, h'⟩ | ⟨h, h', h''⟩
      all_goals
        clear hgo
        go_wp2_with fail
        refine (refAt_c h_x (by omega) k (by omega)).mono ?_
        rintro e w1 ⟨rfl, rfl⟩
        go_wp2_with fail
        refine (refAt_c h_y (by omega) k (by omega)).mono ?_
        rintro e w1 ⟨rfl, rfl⟩
        go_wp2_with (at_builtin; refine wpList_append_nat rfl _ _ rfl w.heap.size _ k zs rfl Hown (some ⟨wr.heap.size, 0, none⟩) 1 1 [sl] (val [sl]) 1 rfl Hlit Hb ?_)
        intro A3 c3 w3 how3 hg3
        have bw3 := below_grown Hbw.out How.out hg3.out
        have How3 := how3.out
        clear how3 hg3 Hown Hlit Hb How Hbw
        go_wp2
        go_roundw
        case rel => exact ⟨k + 1, sh, zs ++ [sl], A3, c3, by omega, Hkc2.out, by go_num, rfl, rfl, Hst.out, How3, bw3⟩
        case measure => simp [intOf]; omega
    · obtain rfl : cr = 0 := by omega
      have hv : val zs = a + b := by
        rw [Hinv.out.done (by rw [Hlx.out]; omega) (by rw [Hly.out]; omega), hx.val, hy.val]
      have hz : NN wr A2 k c2 zs (a + b) (L + L' + 1) := ⟨how.isN, hv, how.caps.1, by omega⟩
      have e1 : ¬ k < n := by omega
      have e2 : ¬ k < n' := by omega
      clear hgo hv how
      go_wp2_with fail
      refine (refTrim_c hz (by omega)).mono ?_
      rintro e w4 ⟨A4, n4, c4, rfl, h4, bn⟩
      go_wp2
      go_ret
      exact ⟨_, _, _, rfl, h4, below_two bw bn⟩

/-- A difference that the reference makes limb by limb. -/
def RSub (xs ys zs : List Nat) (k br : Nat) : Prop := zs.length = k ∧ Small zs ∧ val zs + val (ys.take k) = val (xs.take k) + br * 4294967296 ^ k ∧ br ≤ 1

theorem RSub.start (xs ys : List Nat) : RSub xs ys [] 0 0 := ⟨rfl, small_nil, by simp [val], by omega⟩
theorem sub_step {S X Y z y c P lo hi : Nat} (h : S + Y = X + c * P) (e : lo + y + c = z + hi * 4294967296) : S + P * lo + (Y + P * y) = X + P * z + hi * (P * 4294967296) := by
  have h1 := congrArg (P * ·) e
  simp only [Nat.mul_add] at h1
  rw [Nat.mul_left_comm hi P, Nat.mul_comm c P] at *
  omega
theorem RSub.step0 {xs ys zs : List Nat} {k br lo hi : Nat} (h : RSub xs ys zs k br) (hs : lo < 4294967296) (hi1 : hi ≤ 1) (e : lo + lim ys k + br = lim xs k + hi * 4294967296) : RSub xs ys (zs ++ [lo]) (k + 1) hi := by
  obtain ⟨h1, h2, h3, h4⟩ := h
  have hv : val (zs ++ [lo]) = val zs + 4294967296 ^ k * lo := by rw [val_append, h1]; simp [val]
  have e2 : 4294967296 ^ (k + 1) = 4294967296 ^ k * 4294967296 := Nat.pow_succ ..
  refine ⟨by simp [h1], small_append.2 ⟨h2, small_cons.2 ⟨hs, small_nil⟩⟩, ?_, hi1⟩
  rw [hv, val_take_lim, val_take_lim, e2]
  exact sub_step h3 e
theorem RSub.step {xs ys zs : List Nat} {k br : Nat} (h : RSub xs ys zs k br) (hx : Small xs) (hy : Small ys) : RSub xs ys (zs ++ [diffLo (lim xs k) (lim ys k) br]) (k + 1) (diffHi (lim xs k) (lim ys k) br) :=
  h.step0 (diffLo_lt _ _ _) (diffHi_le _ _ _) (diff_parts (lim_lt hx k) (lim_lt hy k) h.2.2.2)
theorem RSub.done {xs ys zs : List Nat} {k br : Nat} (h : RSub xs ys zs k br) (hk : xs.length = k) (hle : val ys ≤ val xs) (hx : Small xs) : val zs = val xs - val ys := by
  obtain ⟨h1, h2, h3, h4⟩ := h
  have hz := val_lt h2
  rw [h1] at hz
  have hxl := val_lt hx
  rw [hk] at hxl
  rw [List.take_of_length_le (l := xs) (by omega)] at h3
  have hy : val (ys.take k) = val ys := by
    by_cases hky : ys.length ≤ k
    · rw [List.take_of_length_le hky]
    · have e := val_split ys k (by omega)
      have h0 : val (ys.drop k) = 0 := by
        refine Classical.byContradiction fun hn => ?_
        have : 4294967296 ^ k * 1 ≤ 4294967296 ^ k * val (ys.drop k) := Nat.mul_le_mul_left _ (by omega)
        omega
      rw [h0] at e
      omega
  rw [hy] at h3
  rcases (show br = 0 ∨ br = 1 by omega) with rfl | rfl
  · omega
  · omega

theorem diffHi_yes {x y c : Nat} (h : x < y + c) : diffHi x y c = 1 := by simp [diffHi, h]
theorem diffHi_no {x y c : Nat} (h : ¬ x < y + c) : diffHi x y c = 0 := by simp [diffHi, h]

set_option maxHeartbeats 800000 in
theorem refSub_c {A A' : Option Addr} {n c n' c' : Nat} {xs ys : List Nat} {a b L L' : Nat} {w : World} (hx : NN w A n c xs a L) (hy : NN w A' n' c' ys b L') (h1 : L ≤ 100000000) (h2 : L' ≤ 100000000) (hab : b ≤ a) :
    Calls Try.prog 13 #[.slice A n c, .slice A' n' c'] w fun e w' => ∃ A2 n2 c2, e = .returned (.slice A2 n2 c2) ∧ NN w' A2 n2 c2 (limbs (a - b)) (a - b) L ∧ Below w.heap.size w w' := by
  have hle := hx.le
  have hle' := hy.le
  have Hlx := Lib.hid hx.isN.len
  have Hab := Lib.hid hab
  clear hab
  go_enter Try.func13, Try.ntmps13
  go_wp2
  go_loopw [7, 6, 5] (fun i cy v wr => ∃ (k br : Nat) (zs : List Nat) (A2 : Option Addr) (c2 : Nat), k ≤ n ∧ i = .int .i64 (k : Int) ∧ cy = .int .u64 (br : Int) ∧ v = .slice A2 k c2 ∧ RSub xs ys zs k br ∧ OwnN wr w.heap.size A2 k c2 zs ∧ Below w.heap.size w wr) (fun i _ _ _ => n - (intOf i).toNat)
  case atStart => exact ⟨0, 0, [], none, 0, by omega, rfl, rfl, rfl, RSub.start _ _, OwnN.nil _ _, Below.refl _ _⟩
  case round =>
    obtain ⟨k, br, zs, A2, c2, hk, rfl, rfl, rfl, hinv, how, bw⟩ := hrel
    have Hinv := Lib.hid hinv
    have hbr := hinv.2.2.2
    clear hinv
    have h_x := hx.below bw
    have h_y := hy.below bw
    by_cases hgo : k < n
    · have b1 := lim_lt hx.isN.small k
      have b2 := lim_lt hy.isN.small k
      obtain ⟨sl, hsl⟩ : ∃ sl, sl = diffLo (lim xs k) (lim ys k) br := ⟨_, rfl⟩
      obtain ⟨sh, hsh⟩ : ∃ sh, sh = diffHi (lim xs k) (lim ys k) br := ⟨_, rfl⟩
      have hpar := diff_parts b1 b2 hbr
      have hsl2 : sl < 4294967296 := by rw [hsl]; exact diffLo_lt _ _ _
      have Hst : RowKit.Hid (RSub xs ys (zs ++ [sl]) (k + 1) sh) := by
        show RSub _ _ _ _ _
        rw [hsl, hsh]; exact Hinv.out.step hx.isN.small hy.isN.small
      have Hown : RowKit.Hid ((wr.alloc (.cells #[Value.int IntKind.u32 (sl : Int)] 39)).ownsRow w.heap.size 39 1 (.slice A2 k c2) k (zs.map limV)) := (how.alloc _).row
      have Hlit : RowKit.Hid (NN (wr.alloc (.cells #[Value.int IntKind.u32 (sl : Int)] 39)) (some ⟨wr.heap.size, 0, none⟩) 1 1 [sl] (val [sl]) 1) := lit_c wr [sl] (by intro x hx; simp at hx; omega) 1 rfl
      have Hb : RowKit.Hid (k ≤ 1000000000 ∧ 1 ≤ 1000000000 ∧ w.heap.size ≤ (wr.alloc (.cells #[Value.int IntKind.u32 (sl : Int)] 39)).heap.size ∧ Small zs) := ⟨by omega, by omega, by have := bw.size; simp; omega, how.small⟩
      have How := Lib.hid how
      have Hbw := Lib.hid bw
      clear how bw
      by_cases hlt : lim xs k < lim ys k + br
      case' pos =>
        rw [diffHi_yes hlt] at hpar hsh
        subst hsh
        rw [← hsl] at hpar
        have es : ((lim xs k : Nat) : Int) + 4294967296 - (((lim ys k : Nat) : Int) + (br : Int)) = ((sl : Nat) : Int) := by omega
      case' neg =>
        rw [diffHi_no hlt] at hpar hsh
        subst hsh
        rw [← hsl] at hpar
        have es : ((lim xs k : Nat) : Int) - (((lim ys k : Nat) : Int) + (br : Int)) = ((sl : Nat) : Int) := by omega
      all_goals
        clear hpar hsl
        go_wp2_with fail
        refine (refAt_c h_x (by omega) k (by omega)).mono ?_
        rintro e w1 ⟨rfl, rfl⟩
        go_wp2_with fail
        refine (refAt_c h_y (by omega) k (by omega)).mono ?_
        rintro e w1 ⟨rfl, rfl⟩
        go_wp2_with (at_builtin; refine wpList_append_nat rfl _ _ rfl w.heap.size _ k zs rfl Hown (some ⟨wr.heap.size, 0, none⟩) 1 1 [sl] (val [sl]) 1 rfl Hlit Hb ?_)
        intro A3 c3 w3 how3 hg3
        have bw3 := below_grown Hbw.out How.out hg3.out
        have How3 := how3.out
        clear how3 hg3 Hown Hlit Hb How Hbw
        go_wp2
        go_roundw
        case rel => exact ⟨k + 1, _, zs ++ [sl], A3, c3, by omega, by go_num, rfl, rfl, Hst.out, How3, bw3⟩
        case measure => simp [intOf]; omega
    · obtain rfl : k = n := by omega
      have hv : val zs = a - b := by
        rw [Hinv.out.done Hlx.out (by rw [hx.val, hy.val]; exact Hab.out) hx.isN.small, hx.val, hy.val]
      have hz : NN wr A2 k c2 zs (a - b) L := ⟨how.isN, hv, how.caps.1, by omega⟩
      clear hv how
      go_wp2_with fail
      refine (refTrim_c hz (by omega)).mono ?_
      rintro e w4 ⟨A4, n4, c4, rfl, h4, bn⟩
      go_wp2
      go_ret
      exact ⟨_, _, _, rfl, h4, below_two bw bn⟩

theorem refCmp_c {A A' : Option Addr} {n c n' c' : Nat} {xs ys : List Nat} {a b L L' : Nat} {w : World} (hx : NN w A n c xs a L) (hy : NN w A' n' c' ys b L') (h1 : L ≤ 1000000000) (h2 : L' ≤ 1000000000) (v : Int) (hv : cmpI a b = v) :
    Calls Try.prog 12 #[.slice A n c, .slice A' n' c'] w fun e w' => e = .returned (.int .i64 v) ∧ w = w' := by
  have := refCmp_any A n c xs A' n' c' ys w hx.isN hy.isN (by have := hx.le; omega) (by have := hy.le; omega)
  rwa [hx.val, hy.val, hv] at this

theorem refOf_c (v : Nat) (V : Int) (hV : V = v) (h : v < 18446744073709551616) (w : World) :
    Calls Try.prog 25 #[.int .u64 V] w fun e w' => ∃ A2 n2 c2, e = .returned (.slice A2 n2 c2) ∧ NN w' A2 n2 c2 (limbs v) v 2 ∧ Below w.heap.size w w' := by
  subst hV
  refine (refOf_any (v : Int) w (by omega) (by omega)).mono ?_
  rintro e w' ⟨A2, n2, c2, rfl, how, hb⟩
  rw [Int.toNat_natCast] at how
  exact ⟨A2, n2, c2, rfl, NN.own how (by omega), hb⟩

end Go.Proofs.Ythcacnlajfidoaa
