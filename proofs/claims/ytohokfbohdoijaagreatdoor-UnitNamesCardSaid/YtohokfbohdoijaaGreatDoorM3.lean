/- Part 3 of the texts that the statements of this seat lean on: mathematics, and what functions answer, as contracts over memory; each part says its own conditions. -/
import Derived.Test.YtohokfbohdoijaaGreatDoorM2
import Derived.Laws.Rows
import Derived.Deep.RegionWith
/- Package mul's contracts in one form (numbers, lengths), and what Pow answers: the power that is made bit by bit from the highest one, or nothing where a step has too many limbs. Conditions: lists read as limbs, of at most 10^7 of them. -/
namespace Go.Proofs.YtohokfbohdoijaaGreatDoor.Limb
end Go.Proofs.YtohokfbohdoijaaGreatDoor.Limb
namespace Go.Proofs.YtohokfbohdoijaaGreatDoor
open Go.RowKit Limb
set_option linter.unusedVariables false
section
variable {w : World} {A A' : Option Addr} {n c n' c' : Nat} {xs ys : List Nat} {a b L L' : Nat}
theorem mulOf_c (hx : NN w A n c xs a L) (hy : NN w A' n' c' ys b L') (K : Nat) (h1 : L ≤ 100000000) (h2 : L' ≤ 100000000) (h3 : L + L' ≤ K) :
 Calls Tryz.prog 61 #[.slice A n c, .slice A' n' c'] w fun e w' => ∃ A2 n2 c2, e = .returned (.slice A2 n2 c2) ∧ NN w' A2 n2 c2 (limbs (a * b)) (a * b) K ∧ Below w.heap.size w w' := by
 have hlx := lt_pow hx
 have hly := lt_pow hy
 refine (mulOf_any A n c xs A' n' c' ys w hx.isN hy.isN (by have := hx.le; omega) (by have := hy.le; omega) hx.cap hy.cap).mono ?_
 rintro e w' ⟨A2, n2, c2, rfl, how, hb⟩
 rw [hx.val, hy.val] at how
 refine ⟨A2, n2, c2, rfl, NN.own how ?_, hb⟩
 have e1 : 4294967296 ^ (L + L') ≤ 4294967296 ^ K := Nat.pow_le_pow_right (by decide) h3
 rw [Nat.pow_add] at e1
 exact Nat.lt_of_lt_of_le (Nat.mul_lt_mul'' hlx hly) e1
theorem mulShift_c (hx : NN w A n c xs a L) (V : Int) (h0 : -9223372036854775808 ≤ V) (h2 : V ≤ 9223372036854775807) (v K : Nat) (hv : shiftV a V = v) (hk : v < 4294967296 ^ K) (h1 : L ≤ 90000000) :
 Calls Tryz.prog 133 #[.slice A n c, .int .i64 V] w fun e w' => ∃ A2 n2 c2, e = .returned (.slice A2 n2 c2) ∧ NN w' A2 n2 c2 (limbs v) v K ∧ Below w.heap.size w w' := by
 refine (mulShift_any A n c xs V w hx.isN (by have := hx.le; omega) hx.cap h0 h2).mono ?_
 rintro e w' ⟨A2, n2, c2, rfl, how, hb⟩
 rw [hx.val, hv] at how
 exact ⟨A2, n2, c2, rfl, NN.own how hk, hb⟩
theorem two_pow_le {t K : Nat} (h : t ≤ 32 * K) : 2 ^ t ≤ 4294967296 ^ K := by
 rw [pow32]; exact Nat.pow_le_pow_right (by decide) h
end
theorem i64_bit (m i : Nat) (hm : m < 9223372036854775808) : (bits BinOp.and IntKind.i64 ((m : Int) / 2 ^ i) 1 == 1) = m.testBit i := by
 have e : (m : Int) / 2 ^ i = ((m / 2 ^ i : Nat) : Int) := by simp
 have h1 : m / 2 ^ i < 9223372036854775808 := Nat.lt_of_le_of_lt (Nat.div_le_self _ _) hm
 rw [e, Nat.testBit_eq_decide_div_mod_eq]
 generalize m / 2 ^ i = t at h1 ⊢
 have h2 : bits BinOp.and IntKind.i64 (t : Int) 1 = ((t % 2 : Nat) : Int) := by
  have ht : (BitVec.ofInt 64 (t : Int) &&& BitVec.ofInt 64 1).toNat = t % 2 := by
   rw [BitVec.toNat_and, ofInt_u64 t (by omega), show (BitVec.ofInt 64 1).toNat = 1 by decide, Nat.and_one_is_mod]
  show IntKind.i64.wrap ((BitVec.ofInt 64 (t : Int) &&& BitVec.ofInt 64 1).toNat : Int) = _
  rw [ht, IntKind.wrap_i64]
  omega
 rw [h2, Bool.eq_iff_iff]
 simp
 omega
theorem NN.len {w : World} {A : Option Addr} {n c : Nat} {xs : List Nat} {a L : Nat} (h : NN w A n c xs a L) : n = xs.length := h.isN.len.symm
end Go.Proofs.YtohokfbohdoijaaGreatDoor

/- What the reference's Small and Up of layer 2 come to, as contracts over memory: a number times one limb, moved by bits, in shortest limbs. Conditions: the list reads as limbs, of at most 10^7 of them; moves of at most 10^7 bits. -/
namespace Go.Proofs.YtohokfbohdoijaaGreatDoor.Limb
def RSmall (xs zs : List Nat) (v k c : Nat) : Prop := zs.length = k ∧ Small zs ∧ val zs + c * 4294967296 ^ k = val (xs.take k) * v ∧ c < 4294967296
theorem RSmall.start (xs : List Nat) (v : Nat) : RSmall xs [] v 0 0 := ⟨rfl, small_nil, by simp [val], by omega⟩
theorem RSmall.step {xs zs : List Nat} {v k c lo hi : Nat} (h : RSmall xs zs v k c) (hx : Small xs) (hv : v < 4294967296) (hlo : lo < 4294967296) (e : lo + hi * 4294967296 = c + lim xs k * v) : RSmall xs (zs ++ [lo]) v (k + 1) hi := by
 obtain ⟨h1, h2, h3, h4⟩ := h
 refine ⟨by simp [h1], small_append.2 ⟨h2, by intro x hx; simp at hx; omega⟩, ?_, ?_⟩
 · rw [val_append, h1, val_take_lim, Nat.pow_succ]
   have := row_step (S := val zs) (Q := 0) (X := val (xs.take k)) (x := lim xs k) (v := v) (p := 0) (cr := c) (P := 4294967296 ^ k) (lo := lo) (hi := hi) (by rw [h3, Nat.zero_add, Nat.mul_comm]) (by rw [e, Nat.add_zero])
   simp only [val, Nat.mul_zero, Nat.add_zero, Nat.zero_add] at this ⊢
   rw [this, Nat.mul_comm]
 · have := limb_prod (lim_lt hx k) hv
   omega
theorem RSmall.done {xs zs : List Nat} {v k c : Nat} (h : RSmall xs zs v k c) (hx : xs.length = k) : Small (zs ++ [c]) ∧ val (zs ++ [c]) = val xs * v := by
 obtain ⟨h1, h2, h3, h4⟩ := h
 refine ⟨small_append.2 ⟨h2, by intro x hx; simp at hx; omega⟩, ?_⟩
 rw [List.take_of_length_le (by omega)] at h3
 rw [val_append, h1, ← h3, Nat.mul_comm c]
 simp [val]
def RUp (xs zs : List Nat) (q r k c : Nat) : Prop := zs.length = q + k ∧ Small zs ∧ val zs + c * 4294967296 ^ (q + k) = 4294967296 ^ q * val (xs.take k) * 2 ^ r ∧ c < 2 ^ r
theorem RUp.start (xs : List Nat) (q r : Nat) : RUp xs (List.replicate q 0) q r 0 0 := by
 refine ⟨by simp, small_zeros q, ?_, Nat.two_pow_pos _⟩
 have := val_zeros q []
 rw [List.append_nil] at this
 rw [this]; simp [val]
theorem RUp.step {xs zs : List Nat} {q r k c lo hi : Nat} (h : RUp xs zs q r k c) (hx : Small xs) (hlo : lo < 4294967296) (e : lo + hi * 4294967296 = c + lim xs k * 2 ^ r) : RUp xs (zs ++ [lo]) q r (k + 1) hi := by
 obtain ⟨h1, h2, h3, h4⟩ := h
 refine ⟨by simp [h1]; omega, small_append.2 ⟨h2, by intro x hx; simp at hx; omega⟩, ?_, ?_⟩
 · rw [val_append, h1, val_take_lim, ← Nat.add_assoc, Nat.pow_succ]
   have := row_step (S := val zs) (Q := 0) (X := 4294967296 ^ q * val (xs.take k)) (x := lim xs k) (v := 2 ^ r) (p := 0) (cr := c) (P := 4294967296 ^ (q + k)) (lo := lo) (hi := hi) (by rw [h3, Nat.zero_add, Nat.mul_comm]) (by rw [e, Nat.add_zero])
   simp only [val, Nat.mul_zero, Nat.add_zero, Nat.zero_add] at this ⊢
   have e2 : 4294967296 ^ (q + k) * lim xs k = 4294967296 ^ q * (4294967296 ^ k * lim xs k) := by rw [Nat.pow_add, Nat.mul_assoc]
   rw [this, e2, ← Nat.mul_add, Nat.mul_comm]
 · have h5 : lim xs k * 2 ^ r ≤ 4294967295 * 2 ^ r := Nat.mul_le_mul_right _ (by have := lim_lt hx k; omega)
   omega
theorem RUp.done {xs zs : List Nat} {q r k c : Nat} (h : RUp xs zs q r k c) (hx : xs.length = k) (hr : r < 32) : Small (zs ++ [c]) ∧ val (zs ++ [c]) = 4294967296 ^ q * val xs * 2 ^ r := by
 obtain ⟨h1, h2, h3, h4⟩ := h
 have hc : c < 4294967296 := by
  have : 2 ^ r < 2 ^ 32 := Nat.pow_lt_pow_right (by decide) hr
  omega
 refine ⟨small_append.2 ⟨h2, by intro x hx; simp at hx; omega⟩, ?_⟩
 rw [List.take_of_length_le (by omega)] at h3
 rw [val_append, h1, ← h3, Nat.mul_comm c]
 simp [val]
theorem RUp.or {c x r : Nat} (h : c < 2 ^ r) : c ||| x * 2 ^ r = c + x * 2 ^ r := by
 rw [Nat.or_comm, Nat.mul_comm, ← Nat.two_pow_add_eq_or_of_lt h]
 omega
end Go.Proofs.YtohokfbohdoijaaGreatDoor.Limb
namespace Go.Proofs.YtohokfbohdoijaaGreatDoor
open Go.RowKit Limb
set_option linter.unusedVariables false
set_option maxHeartbeats 800000 in
theorem refSmall_c {A : Option Addr} {n c : Nat} {xs : List Nat} {a L : Nat} {w : World} (hx : NN w A n c xs a L) (v : Nat) (V : Int) (hV : V = v) (hv : v < 4294967296) (h1 : L ≤ 100000000) :
 Calls Tryz.prog 138 #[.slice A n c, .int .u32 V] w fun e w' => ∃ A2 n2 c2, e = .returned (.slice A2 n2 c2) ∧ NN w' A2 n2 c2 (limbs (a * v)) (a * v) (L + 1) ∧ Below w.heap.size w w' := by
 subst hV
 have hle := hx.le
 have Hlx := Lib.hid hx.isN.len
 have hsx := hx.isN.small
 go_enter Tryz.func138, Tryz.ntmps138
 go_wp2
 go_loopw [7, 6, 5] (fun i cy ov wr => ∃ (k cr : Nat) (zs : List Nat) (A2 : Option Addr) (c2 : Nat), k ≤ n ∧ i = .int .i64 (k : Int) ∧ cy = .int .u64 (cr : Int) ∧ ov = .slice A2 k c2 ∧ RowKit.Hid (RSmall xs zs v k cr) ∧ OwnN wr w.heap.size A2 k c2 zs ∧ Below w.heap.size w wr) (fun i _ _ _ => n - (intOf i).toNat)
 case atStart => exact ⟨0, 0, [], none, 0, by omega, rfl, rfl, rfl, RSmall.start _ _, OwnN.nil _ _, Below.refl _ _⟩
 case round =>
  obtain ⟨k, cr, zs, A2, c2, hk, rfl, rfl, rfl, Hinv, how, bw⟩ := hrel
  have hcr := Hinv.out.2.2.2
  by_cases hgo : k < n
  · obtain ⟨b1, o1, rfl, hb1, hc1⟩ := hx.isN.2.2 (by omega)
    have hcell : wr.cell? ⟨b1, o1 + k, none⟩ = some (.int .u32 ((lim xs k : Nat) : Int)) := (bw.cell (p := ⟨b1, o1 + k, none⟩) hb1).trans (hc1 k hgo)
    have l1 := lim_lt hsx k
    have hq := limb_prod l1 hv
    have eI : ((lim xs k * v : Nat) : Int) = ((lim xs k : Nat) : Int) * (v : Int) := Int.natCast_mul _ _
    have hq1 : ((lim xs k : Nat) : Int) * (v : Int) ≤ 18446744065119617025 := by omega
    have hq0 : 0 ≤ ((lim xs k : Nat) : Int) * (v : Int) := by omega
    obtain ⟨sl, hsl⟩ : ∃ sl, sl = (cr + lim xs k * v) % 4294967296 := ⟨_, rfl⟩
    obtain ⟨sh, hsh⟩ : ∃ sh, sh = (cr + lim xs k * v) / 4294967296 := ⟨_, rfl⟩
    have es : ((cr : Int) + ((lim xs k : Nat) : Int) * (v : Int)) % 4294967296 = ((sl : Nat) : Int) := by omega
    have eh : ((cr : Int) + ((lim xs k : Nat) : Int) * (v : Int)) / 4294967296 = ((sh : Nat) : Int) := by omega
    have hsl2 : sl < 4294967296 := by omega
    have Hst : RowKit.Hid (RSmall xs (zs ++ [sl]) v (k + 1) sh) := Hinv.out.step hsx hv hsl2 (by omega)
    have Hown : RowKit.Hid ((wr.alloc (.cells #[Value.int IntKind.u32 (sl : Int)] 84)).ownsRow w.heap.size 84 1 (.slice A2 k c2) k (zs.map limV)) := (how.alloc _).row
    have Hlit : RowKit.Hid (NN (wr.alloc (.cells #[Value.int IntKind.u32 (sl : Int)] 84)) (some ⟨wr.heap.size, 0, none⟩) 1 1 [sl] (val [sl]) 1) := lit_c wr [sl] (by intro x hx; simp at hx; omega) 1 rfl
    have Hb : RowKit.Hid (k ≤ 1000000000 ∧ 1 ≤ 1000000000 ∧ w.heap.size ≤ (wr.alloc (.cells #[Value.int IntKind.u32 (sl : Int)] 84)).heap.size ∧ Small zs) := ⟨by omega, by omega, by have := bw.size; simp; omega, how.small⟩
    have How := Lib.hid how
    have Hbw := Lib.hid bw
    clear hq eI hsl hsh hsl2 how bw
    go_wp2_with (at_builtin; refine wpList_append_nat rfl _ _ rfl w.heap.size _ k zs rfl Hown (some ⟨wr.heap.size, 0, none⟩) 1 1 [sl] (val [sl]) 1 rfl Hlit Hb ?_)
    intro A3 c3 w3 how3 hg3
    have bw3 := below_grown Hbw.out How.out hg3.out
    have How3 := how3.out
    clear how3 hg3 Hown Hlit Hb How Hbw
    go_wp2
    go_roundw
    case rel => exact ⟨k + 1, sh, zs ++ [sl], A3, c3, by omega, by go_num, rfl, rfl, Hst, How3, bw3⟩
    case measure => simp [intOf]; omega
  · obtain rfl : k = n := by omega
    have Hd := Lib.hid (Hinv.out.done Hlx.out)
    have Hown : RowKit.Hid ((wr.alloc (.cells #[Value.int IntKind.u32 (cr : Int)] 84)).ownsRow w.heap.size 84 1 (.slice A2 k c2) k (zs.map limV)) := (how.alloc _).row
    have Hlit : RowKit.Hid (NN (wr.alloc (.cells #[Value.int IntKind.u32 (cr : Int)] 84)) (some ⟨wr.heap.size, 0, none⟩) 1 1 [cr] (val [cr]) 1) := lit_c wr [cr] (by intro x hx; simp at hx; omega) 1 rfl
    have Hb : RowKit.Hid (k ≤ 1000000000 ∧ 1 ≤ 1000000000 ∧ w.heap.size ≤ (wr.alloc (.cells #[Value.int IntKind.u32 (cr : Int)] 84)).heap.size ∧ Small zs) := ⟨by omega, by omega, by have := bw.size; simp; omega, how.small⟩
    have How := Lib.hid how
    have Hbw := Lib.hid bw
    have hav : val xs = a := hx.val
    clear how bw
    go_wp2_with (at_builtin; refine wpList_append_nat rfl _ _ rfl w.heap.size _ k zs rfl Hown (some ⟨wr.heap.size, 0, none⟩) 1 1 [cr] (val [cr]) 1 rfl Hlit Hb ?_)
    intro A3 c3 w3 how3 hg3
    have bw3 := below_grown Hbw.out How.out hg3.out
    have hz : NN w3 A3 (k + 1) c3 (zs ++ [cr]) (a * v) (L + 1) := ⟨how3.out.isN, by rw [Hd.out.2, hav], how3.out.caps.1, by omega⟩
    clear how3 hg3 Hown Hlit Hb How Hbw hav
    go_wp2_with fail
    refine (refTrim_c hz (by omega)).mono ?_
    rintro e w4 ⟨A4, n4, c4, rfl, h4, bn⟩
    go_wp2
    go_ret
    exact ⟨_, _, _, rfl, h4, below_two bw3 bn⟩
theorem run_made2 (V C : Int) (n cap : Nat) (hV : V = n) (hC : C = cap) (hn : n ≤ cap) (hc : cap ≤ 2000000000) (W : World) : (Instr.makeSlice 29 (.int .i64 V) (.int .i64 C)).run Tryz.prog W = .ok (.slice (some ⟨W.heap.size, 0, none⟩) n cap) (W.alloc (.cells (madeCells #[.int .u32 0] cap) 84)) := by
 subst hV
 subst hC
 obtain ⟨i0, hi, hz0, hz1, hz2⟩ := info_parts u32_info
 have h := run_make (P := Tryz.prog) W 29 84 i0 (.int .u32 0) Tryz.underlying29 hi hz0 .i64 .i64 (n : Int) (cap : Int) (by omega) (by omega) (by rw [hz2]; omega) (by omega)
 rw [hz1] at h
 rw [Int.toNat_natCast, Int.toNat_natCast, Nat.mul_one] at h
 exact h
theorem own_made2 (w : World) (n cap : Nat) (hn : n ≤ cap) (hc : cap ≤ 2000000000) : OwnN (w.alloc (.cells (madeCells #[.int .u32 0] cap) 84)) w.heap.size (some ⟨w.heap.size, 0, none⟩) n cap (List.replicate n 0) := by
 have Hg : (w.alloc (.cells (madeCells #[.int .u32 0] cap) 84)).heap[w.heap.size]? = some (.cells (List.replicate cap (Value.int .u32 0)).toArray 84 (0, 0)) := by
  rw [heap_alloc_new, ← toList_madeCells_one]
 refine ⟨⟨by simp, .inr ⟨w.heap.size, cap, _, rfl, Nat.le_refl _, Hg, hn, by unfold maxLen; omega, ?_, ?_⟩⟩, small_zeros _⟩
 · simp
 · simp [limV, List.take_replicate, Nat.min_eq_left hn]
set_option maxHeartbeats 800000 in
theorem refUp_o {A : Option Addr} {n c : Nat} {xs : List Nat} {a L : Nat} {w : World} (hx : NN w A n c xs a L) (m : Nat) (V : Int) (hV : V = m) (hm : m ≤ 100000000) (h1 : L ≤ 100000000) :
 Calls Tryz.prog 137 #[.slice A n c, .int .i64 V] w fun e w' => ∃ A2 n2 c2, e = .returned (.slice A2 n2 c2) ∧ OwnN w' w.heap.size A2 n2 c2 (limbs (a * 2 ^ m)) ∧ Below w.heap.size w w' := by
 subst hV
 obtain ⟨q, hq⟩ : ∃ q, q = m / 32 := ⟨_, rfl⟩
 obtain ⟨r, hr⟩ : ∃ r, r = m % 32 := ⟨_, rfl⟩
 have Hmv : RowKit.Hid (4294967296 ^ q * a * 2 ^ r = a * 2 ^ m) := by show _ = _; rw [hq, hr, Nat.mul_assoc]; exact pow_split _ _
 have eq1 : (m : Int) / 32 = (q : Int) := by omega
 have er1 : (m : Int) % 32 = (r : Int) := by omega
 have hr32 : r < 32 := by omega
 have hq3 : q ≤ 3125000 := by omega
 have hle := hx.le
 have Hlx := Lib.hid hx.isN.len
 have hsx := hx.isN.small
 have hav : RowKit.Hid (val xs = a) := hx.val
 clear hq hr
 have hmk := run_made2 (q : Int) ((q : Int) + (n : Int) + 1) q (q + n + 1) rfl (by omega) (by omega) (by omega)
 have Hs := Lib.hid (own_made2 w q (q + n + 1) (by omega) (by omega))
 have Hb0 := Lib.hid (below_new w (.cells (madeCells #[.int .u32 0] (q + n + 1)) 84))
 go_enter Tryz.func137, Tryz.ntmps137
 go_wp2
 go_loopw [7, 6, 5] (fun i cy ov wr => ∃ (k cr : Nat) (zs : List Nat) (A2 : Option Addr) (c2 : Nat), k ≤ n ∧ i = .int .i64 (k : Int) ∧ cy = .int .u64 (cr : Int) ∧ ov = .slice A2 (q + k) c2 ∧ RowKit.Hid (RUp xs zs q r k cr) ∧ RowKit.Hid (OwnN wr w.heap.size A2 (q + k) c2 zs) ∧ RowKit.Hid (Below w.heap.size w wr)) (fun i _ _ _ => n - (intOf i).toNat)
 case atStart => exact ⟨0, 0, List.replicate q 0, _, _, by omega, rfl, rfl, rfl, RUp.start _ _ _, Hs, Hb0⟩
 case round =>
  clear Hs Hb0 hmk
  obtain ⟨k, cr, zs, A2, c2, hk, rfl, rfl, rfl, Hinv, How0, Hbw0⟩ := hrel
  have how := How0.out
  have bw := Hbw0.out
  clear How0 Hbw0
  have hcr0 := Hinv.out.2.2.2
  have hr2 := two_pow_small r hr32
  have hcr : cr < 4294967296 := by omega
  by_cases hgo : k < n
  · obtain ⟨b1, o1, rfl, hb1, hc1⟩ := hx.isN.2.2 (by omega)
    have hcell : wr.cell? ⟨b1, o1 + k, none⟩ = some (.int .u32 ((lim xs k : Nat) : Int)) := (bw.cell (p := ⟨b1, o1 + k, none⟩) hb1).trans (hc1 k hgo)
    have l1 := lim_lt hsx k
    have hpr := limb_prod l1 hr2
    obtain ⟨s, hs⟩ : ∃ s, s = cr + lim xs k * 2 ^ r := ⟨_, rfl⟩
    have e2 : ((lim xs k : Nat) : Int) * 2 ^ r = ((lim xs k * 2 ^ r : Nat) : Int) := by rw [Int.natCast_mul, Int.natCast_pow]; rfl
    have e3 : IntKind.u64.wrap (((lim xs k : Nat) : Int) * 2 ^ r) = ((lim xs k * 2 ^ r : Nat) : Int) := by
     rw [e2, IntKind.wrap_u64]
     generalize lim xs k * 2 ^ r = t at hpr ⊢
     omega
    have hor : bits BinOp.or IntKind.u64 (cr : Int) (IntKind.u64.wrap (((lim xs k : Nat) : Int) * 2 ^ r)) = (s : Int) := by
     rw [e3, u64_or_nat _ _ (by omega) (by omega), RUp.or hcr0, ← hs]
    clear e2 e3
    have hs2 : s < 18446744073709551616 := by
     rw [hs]
     generalize lim xs k * 2 ^ r = t at hpr ⊢
     omega
    obtain ⟨sl, hsl⟩ : ∃ sl, sl = s % 4294967296 := ⟨_, rfl⟩
    obtain ⟨sh, hsh⟩ : ∃ sh, sh = s / 4294967296 := ⟨_, rfl⟩
    have es : (s : Int) % 4294967296 = ((sl : Nat) : Int) := by omega
    have eh : (s : Int) / 4294967296 = ((sh : Nat) : Int) := by omega
    have hsl2 : sl < 4294967296 := by omega
    have Hst : RowKit.Hid (RUp xs (zs ++ [sl]) q r (k + 1) sh) := Hinv.out.step hsx hsl2 (by rw [← hs]; omega)
    have hqk : q + k ≤ 200000000 := by omega
    have Hown : RowKit.Hid ((wr.alloc (.cells #[Value.int IntKind.u32 (sl : Int)] 84)).ownsRow w.heap.size 84 1 (.slice A2 (q + k) c2) (q + k) (zs.map limV)) := (how.alloc _).row
    have Hlit : RowKit.Hid (NN (wr.alloc (.cells #[Value.int IntKind.u32 (sl : Int)] 84)) (some ⟨wr.heap.size, 0, none⟩) 1 1 [sl] (val [sl]) 1) := lit_c wr [sl] (by intro x hx; simp at hx; omega) 1 rfl
    have Hb : RowKit.Hid ((q + k) ≤ 1000000000 ∧ 1 ≤ 1000000000 ∧ w.heap.size ≤ (wr.alloc (.cells #[Value.int IntKind.u32 (sl : Int)] 84)).heap.size ∧ Small zs) := ⟨by omega, by omega, by have := bw.size; simp; omega, how.small⟩
    have How := Lib.hid how
    have Hbw := Lib.hid bw
    clear hpr hs hsl hsh hsl2 how bw hcr0 hr2 Hinv
    go_wp2_with (at_builtin; refine wpList_append_nat rfl _ _ rfl w.heap.size _ (q + k) zs rfl Hown (some ⟨wr.heap.size, 0, none⟩) 1 1 [sl] (val [sl]) 1 rfl Hlit Hb ?_)
    intro A3 c3 w3 how3 hg3
    have bw3 := below_grown Hbw.out How.out hg3.out
    have How3 := Lib.hid how3.out
    have Bw3 := Lib.hid bw3
    clear how3 hg3 Hown Hlit Hb How Hbw bw3
    go_wp2
    go_roundw
    case rel => exact ⟨k + 1, sh, zs ++ [sl], A3, c3, by omega, by go_num, rfl, rfl, Hst, How3, Bw3⟩
    case measure => simp [intOf]; omega
  · obtain rfl : k = n := by omega
    have Hd := Lib.hid (Hinv.out.done Hlx.out hr32)
    have hqk : q + k ≤ 200000000 := by omega
    have Hown : RowKit.Hid ((wr.alloc (.cells #[Value.int IntKind.u32 (cr : Int)] 84)).ownsRow w.heap.size 84 1 (.slice A2 (q + k) c2) (q + k) (zs.map limV)) := (how.alloc _).row
    have Hlit : RowKit.Hid (NN (wr.alloc (.cells #[Value.int IntKind.u32 (cr : Int)] 84)) (some ⟨wr.heap.size, 0, none⟩) 1 1 [cr] (val [cr]) 1) := lit_c wr [cr] (by intro x hx; simp at hx; omega) 1 rfl
    have Hb : RowKit.Hid ((q + k) ≤ 1000000000 ∧ 1 ≤ 1000000000 ∧ w.heap.size ≤ (wr.alloc (.cells #[Value.int IntKind.u32 (cr : Int)] 84)).heap.size ∧ Small zs) := ⟨by omega, by omega, by have := bw.size; simp; omega, how.small⟩
    have How := Lib.hid how
    have Hbw := Lib.hid bw
    clear how bw hcr0 hr2 Hinv
    go_wp2_with (at_builtin; refine wpList_append_nat rfl _ _ rfl w.heap.size _ (q + k) zs rfl Hown (some ⟨wr.heap.size, 0, none⟩) 1 1 [cr] (val [cr]) 1 rfl Hlit Hb ?_)
    intro A3 c3 w3 how3 hg3
    have bw3 := below_grown Hbw.out How.out hg3.out
    have hv : val (zs ++ [cr]) = a * 2 ^ m := by rw [Hd.out.2, hav.out, Hmv.out]
    have hz : NN w3 A3 (q + k + 1) c3 (zs ++ [cr]) (a * 2 ^ m) 1000000000 := ⟨how3.out.isN, hv, how3.out.caps.1, by omega⟩
    clear how3 hg3 Hown Hlit Hb How Hbw hv
    go_wp2_with fail
    refine (refTrim_o hz (by omega)).mono ?_
    rintro e w4 ⟨A4, n4, c4, rfl, h4, bn⟩
    go_wp2
    go_ret
    exact ⟨_, _, _, rfl, h4.mono bw3.size, below_two bw3 bn⟩
theorem refUp_c {A : Option Addr} {n c : Nat} {xs : List Nat} {a L : Nat} {w : World} (hx : NN w A n c xs a L) (m : Nat) (V : Int) (hV : V = m) (hm : m ≤ 100000000) (h1 : L ≤ 100000000) (K : Nat) (hK : a * 2 ^ m < 4294967296 ^ K) :
 Calls Tryz.prog 137 #[.slice A n c, .int .i64 V] w fun e w' => ∃ A2 n2 c2, e = .returned (.slice A2 n2 c2) ∧ NN w' A2 n2 c2 (limbs (a * 2 ^ m)) (a * 2 ^ m) K ∧ Below w.heap.size w w' := by
 refine (refUp_o hx m V hV hm h1).mono ?_
 rintro e w' ⟨A2, n2, c2, rfl, how, hb⟩
 exact ⟨A2, n2, c2, rfl, NN.own how hK, hb⟩
end Go.Proofs.YtohokfbohdoijaaGreatDoor

/- What the reference's Down and Shift of layer 2 come to, as contracts over memory: a number moved by bits, in shortest limbs. Conditions: the list reads as limbs, of at most 9*10^7 of them. -/
namespace Go.Proofs.YtohokfbohdoijaaGreatDoor
open Go.RowKit Limb
set_option linter.unusedVariables false
theorem down_or {a b r : Nat} (ha : a < 4294967296) : (a ||| b * 4294967296) / 2 ^ r % 4294967296 = a / 2 ^ r ||| b * 2 ^ (32 - r) % 4294967296 ∨ 32 ≤ r := by
 by_cases hr : 32 ≤ r
 · exact .inr hr
 refine .inl (Nat.eq_of_testBit_eq fun i => ?_)
 rw [show (4294967296 : Nat) = 2 ^ 32 from rfl, Nat.testBit_mod_two_pow, Nat.testBit_div_two_pow, Nat.testBit_or, Nat.testBit_mul_two_pow, Nat.testBit_or, Nat.testBit_div_two_pow, Nat.testBit_mod_two_pow, Nat.testBit_mul_two_pow]
 by_cases hi : i < 32
 · by_cases hc : i + r < 32
   · have e1 : ¬ (32 ≤ i + r) := by omega
     have e2 : ¬ (32 - r ≤ i) := by omega
     simp [hi, e1, e2]
   · have e1 : 32 ≤ i + r := by omega
     have e2 : 32 - r ≤ i := by omega
     have e3 : i + r - 32 = i - (32 - r) := by omega
     simp [hi, e1, e2, e3]
 · have e4 : a.testBit (i + r) = false := Nat.testBit_lt_two_pow (Nat.lt_of_lt_of_le ha (by
    have : 2 ^ 32 ≤ 2 ^ (i + r) := Nat.pow_le_pow_right (by decide) (by omega)
    simpa using this))
   simp [hi, e4]
theorem down_lim {ys : List Nat} {r j : Nat} (hy : Small ys) (hr : r < 32) : (lim ys j ||| lim ys (j + 1) * 4294967296) / 2 ^ r % 4294967296 = downLimb ys r j := by
 rcases down_or (a := lim ys j) (b := lim ys (j + 1)) (r := r) (lim_lt hy j) with h | h
 · exact h
 · omega
def RDown (ys zs : List Nat) (r k : Nat) : Prop := zs.length = k ∧ ∀ j, j < k → lim zs j = downLimb ys r j
theorem RDown.start (ys : List Nat) (r : Nat) : RDown ys [] r 0 := ⟨rfl, fun j hj => by omega⟩
theorem lim_append_lt {zs us : List Nat} {j : Nat} (h : j < zs.length) : lim (zs ++ us) j = lim zs j := by
 simp [lim, List.getD_eq_getElem?_getD, List.getElem?_append_left h]
theorem lim_append_at {zs : List Nat} {u : Nat} : lim (zs ++ [u]) zs.length = u := by
 simp [lim, List.getD_eq_getElem?_getD]
theorem RDown.step {ys zs : List Nat} {r k v : Nat} (h : RDown ys zs r k) (hv : v = downLimb ys r k) : RDown ys (zs ++ [v]) r (k + 1) := by
 obtain ⟨h1, h2⟩ := h
 refine ⟨by simp [h1], fun j hj => ?_⟩
 by_cases e : j = k
 · subst e; rw [← h1, lim_append_at, h1, hv]
 · rw [lim_append_lt (by omega)]; exact h2 j (by omega)
set_option maxHeartbeats 1600000 in
theorem refDown_o {A : Option Addr} {n c : Nat} {xs : List Nat} {a L : Nat} {w : World} (hx : NN w A n c xs a L) (m : Nat) (V : Int) (hV : V = m) (hm : m ≤ 100000000) (h1 : L ≤ 100000000) :
 Calls Tryz.prog 160 #[.slice A n c, .int .i64 V] w fun e w' => ∃ A2 n2 c2, e = .returned (.slice A2 n2 c2) ∧ OwnN w' w.heap.size A2 n2 c2 (limbs (a / 2 ^ m)) ∧ Below w.heap.size w w' := by
 subst hV
 obtain ⟨q, hq⟩ : ∃ q, q = m / 32 := ⟨_, rfl⟩
 obtain ⟨r, hr⟩ : ∃ r, r = m % 32 := ⟨_, rfl⟩
 have Hmv : RowKit.Hid (a / 4294967296 ^ q / 2 ^ r = a / 2 ^ m) := by show _ = _; rw [hq, hr]; exact div_move _ _
 have eq1 : (m : Int) / 32 = (q : Int) := by omega
 have er1 : (m : Int) % 32 = (r : Int) := by omega
 have hr32 : r < 32 := by omega
 have hq3 : q ≤ 3125000 := by omega
 have hle := hx.le
 have Hlx := Lib.hid hx.isN.len
 have hsx := hx.isN.small
 have hav : RowKit.Hid (val xs = a) := hx.val
 have hsy : Small (xs.drop q) := small_drop hsx q
 have hly : RowKit.Hid (∀ j, lim (xs.drop q) j = lim xs (q + j)) := fun j => lim_drop xs q j
 have hlen : RowKit.Hid ((xs.drop q).length = n - q) := by show _ = _; rw [List.length_drop, Hlx.out]
 have Hend : RowKit.Hid (∀ zs : List Nat, Small zs → RDown (xs.drop q) zs r (n - q) → val zs = a / 2 ^ m) := by
  intro zs hz h
  have e1 := val_down hsy hz hr32 (by rw [h.1, hlen.out]) (fun j hj => h.2 j (by rw [← hlen.out]; exact hj))
  by_cases hqn : q ≤ n
  · rw [e1, val_drop hsx q (by rw [Hlx.out]; exact hqn), hav.out, Hmv.out]
  · have e2 : xs.drop q = [] := List.drop_of_length_le (by rw [Hlx.out]; omega)
    have h3 := lt_pow hx
    have h4 : a < 4294967296 ^ q := by
     rw [← hav.out]
     have h5 := val_lt hsx
     rw [Hlx.out] at h5
     exact Nat.lt_of_lt_of_le h5 (Nat.pow_le_pow_right (by decide) (by omega))
    rw [e1, e2, ← Hmv.out, Nat.div_eq_of_lt h4]
    rfl
 obtain ⟨ys, hys⟩ : ∃ ys, ys = xs.drop q := ⟨_, rfl⟩
 rw [← hys] at hsy hly hlen Hend
 clear hq hr hys
 go_enter Tryz.func160, Tryz.ntmps160
 go_wp2
 go_loopw [6, 5] (fun i ov wr => ∃ (k : Nat) (zs : List Nat) (A2 : Option Addr) (c2 : Nat), k ≤ n - q ∧ i = .int .i64 ((q : Int) + (k : Int)) ∧ ov = .slice A2 k c2 ∧ RowKit.Hid (RDown ys zs r k) ∧ RowKit.Hid (OwnN wr w.heap.size A2 k c2 zs) ∧ RowKit.Hid (Below w.heap.size w wr)) (fun i _ _ => n - (intOf i).toNat)
 case atStart => exact ⟨0, [], none, 0, by omega, by go_num, rfl, RDown.start _ _, OwnN.nil _ _, Below.refl _ _⟩
 case round =>
  obtain ⟨k, zs, A2, c2, hk, rfl, rfl, Hinv, How0, Hbw0⟩ := hrel
  have how := How0.out
  have bw := Hbw0.out
  clear How0 Hbw0
  by_cases hgo : q + k < n
  · obtain ⟨b1, o1, rfl, hb1, hc1⟩ := hx.isN.2.2 (by omega)
    have e0 : ((q : Int) + (k : Int)) = ((q + k : Nat) : Int) := by omega
    rw [e0]
    obtain ⟨t, ht⟩ : ∃ t, t = q + k := ⟨_, rfl⟩
    rw [← ht] at hgo ⊢
    clear e0
    have hcell : wr.cell? ⟨b1, o1 + t, none⟩ = some (.int .u32 ((lim xs t : Nat) : Int)) := (bw.cell (p := ⟨b1, o1 + t, none⟩) hb1).trans (hc1 t hgo)
    have l1 := lim_lt hsx t
    have l2 := lim_lt hsx (t + 1)
    have Hq : RowKit.Hid (lim ys k = lim xs t ∧ lim ys (k + 1) = lim xs (t + 1)) := ⟨by rw [hly.out, ht], by rw [hly.out, ht]; rfl⟩
    have Hdl : RowKit.Hid ((lim xs t ||| lim xs (t + 1) * 4294967296) / 2 ^ r % 4294967296 = downLimb ys r k) := by
     have := down_lim (j := k) hsy hr32
     rw [Hq.out.1, Hq.out.2] at this
     exact this
    obtain ⟨sl, hsl⟩ : ∃ sl, sl = downLimb ys r k := ⟨_, rfl⟩
    have hsl2 : sl < 4294967296 := by rw [hsl]; exact downLimb_lt hsy _ _
    have Hst : RowKit.Hid (RDown ys (zs ++ [sl]) r (k + 1)) := Hinv.out.step hsl
    rw [← hsl] at Hdl
    have Ht := Lib.hid ht
    clear ht
    have hkk : k ≤ 200000000 := by omega
    by_cases hlast : t + 1 < n
    case' pos =>
     have hcell2 : wr.cell? ⟨b1, o1 + (t + 1), none⟩ = some (.int .u32 ((lim xs (t + 1) : Nat) : Int)) := (bw.cell (p := ⟨b1, o1 + (t + 1), none⟩) hb1).trans (hc1 (t + 1) hlast)
     obtain ⟨s, hs⟩ : ∃ s, s = lim xs t ||| lim xs (t + 1) * 4294967296 := ⟨_, rfl⟩
     have hor : bits BinOp.or IntKind.u64 ((lim xs t : Nat) : Int) (((lim xs (t + 1) : Nat) : Int) * 4294967296) = (s : Int) := by
      have := u64_or_nat (lim xs t) (lim xs (t + 1) * 4294967296) (by omega) (by omega)
      rw [hs, ← this]; rfl
     have hs2 : s < 18446744073709551616 := by
      rw [hs]
      exact Nat.or_lt_two_pow (n := 64) (by omega) (by omega)
     rw [← hs] at Hdl
     have hlt : (((t : Int) + 1)) < (n : Int) := by omega
     have es : ((s : Int) / 2 ^ r) % 4294967296 = ((sl : Nat) : Int) := by
      rw [← Hdl.out, Int.natCast_emod, Int.natCast_ediv, Int.natCast_pow]; rfl
    case' neg =>
     have hl0 : lim xs (t + 1) = 0 := lim_of_ge (by rw [Hlx.out]; omega)
     obtain ⟨s, hs⟩ : ∃ s, s = lim xs t := ⟨_, rfl⟩
     rw [hl0, Nat.zero_mul, Nat.or_zero, ← hs] at Hdl
     rw [← hs] at hcell l1
     have hlt : (n : Int) ≤ ((t : Int) + 1) := by omega
     have es : ((s : Int) / 2 ^ r) % 4294967296 = ((sl : Nat) : Int) := by
      rw [← Hdl.out, Int.natCast_emod, Int.natCast_ediv, Int.natCast_pow]; rfl
    all_goals
     have Hown : RowKit.Hid ((wr.alloc (.cells #[Value.int IntKind.u32 (sl : Int)] 84)).ownsRow w.heap.size 84 1 (.slice A2 (k) c2) (k) (zs.map limV)) := (how.alloc _).row
     have Hlit : RowKit.Hid (NN (wr.alloc (.cells #[Value.int IntKind.u32 (sl : Int)] 84)) (some ⟨wr.heap.size, 0, none⟩) 1 1 [sl] (val [sl]) 1) := lit_c wr [sl] (by intro x hx; simp at hx; omega) 1 rfl
     have Hb : RowKit.Hid ((k) ≤ 1000000000 ∧ 1 ≤ 1000000000 ∧ w.heap.size ≤ (wr.alloc (.cells #[Value.int IntKind.u32 (sl : Int)] 84)).heap.size ∧ Small zs) := ⟨by omega, by omega, by have := bw.size; simp; omega, how.small⟩
     have How := Lib.hid how
     have Hbw := Lib.hid bw
     clear how bw Hinv Hdl hs hsl hsl2 Hq
     go_wp2_with (at_builtin; refine wpList_append_nat rfl _ _ rfl w.heap.size _ (k) zs rfl Hown (some ⟨wr.heap.size, 0, none⟩) 1 1 [sl] (val [sl]) 1 rfl Hlit Hb ?_)
     intro A3 c3 w3 how3 hg3
     have bw3 := below_grown Hbw.out How.out hg3.out
     have How3 := Lib.hid how3.out
     have Bw3 := Lib.hid bw3
     clear how3 hg3 Hown Hlit Hb How Hbw bw3
     go_wp2
     go_roundw
     case rel => exact ⟨k + 1, zs ++ [sl], A3, c3, by have := Ht.out; omega, by rw [Ht.out]; go_num, rfl, Hst, How3, Bw3⟩
     case measure => simp [intOf]; omega
  · have e0 : ((q : Int) + (k : Int)) = ((q + k : Nat) : Int) := by omega
    rw [e0]
    have hge : (n : Int) ≤ ((q + k : Nat) : Int) := by omega
    obtain ⟨t, ht⟩ : ∃ t, t = q + k := ⟨_, rfl⟩
    rw [← ht] at hge ⊢
    have hkn : k = n - q := by omega
    have hv : val zs = a / 2 ^ m := Hend.out zs how.small (by rw [← hkn]; exact Hinv.out)
    have hz : NN wr A2 k c2 zs (a / 2 ^ m) L := ⟨how.isN, hv, how.caps.1, by omega⟩
    clear hv how ht hkn
    go_wp2_with fail
    refine (refTrim_o hz (by omega)).mono ?_
    rintro e w4 ⟨A4, n4, c4, rfl, h4, bn⟩
    go_wp2
    go_ret
    exact ⟨_, _, _, rfl, h4.mono bw.size, below_two bw bn⟩
end Go.Proofs.YtohokfbohdoijaaGreatDoor

/- What the reference's Of of layer 2 comes to, as a contract over memory: the product, in shortest limbs. Conditions: both lists read as limbs, of at most 10^6 of them. -/
namespace Go.Proofs.YtohokfbohdoijaaGreatDoor
open Go.RowKit Limb
set_option linter.unusedVariables false
theorem mul_step (a : Nat) (ys : List Nat) (k : Nat) : a * val (ys.take k) + a * lim ys k * 2 ^ (32 * k) = a * val (ys.take (k + 1)) := by
 rw [val_take_lim, Nat.mul_add, pow32, Nat.mul_assoc, Nat.mul_comm (lim ys k)]
theorem mul_room {w : World} {A A' : Option Addr} {n c n' c' : Nat} {xs ys : List Nat} {a b L L' : Nat} (hx : NN w A n c xs a L) (hy : NN w A' n' c' ys b L') (k : Nat) : a * val (ys.take k) < 4294967296 ^ (L + L') := by
 have h1 := lt_pow hx
 have h2 := val_lt (small_take hy.isN.small k)
 have h3 : 4294967296 ^ (ys.take k).length ≤ 4294967296 ^ L' := Nat.pow_le_pow_right (by decide) (by rw [List.length_take, hy.isN.len]; have := hy.le; omega)
 rw [Nat.pow_add]
 exact Nat.mul_lt_mul'' h1 (Nat.lt_of_lt_of_le h2 h3)
theorem up_fits {t L k : Nat} (h : t < 4294967296 ^ L) : t * 2 ^ (32 * k) < 4294967296 ^ (L + k) := by
 rw [Nat.pow_add, ← pow32]
 exact Nat.mul_lt_mul_of_pos_right h (Nat.pow_pos (by decide))
set_option maxHeartbeats 1600000 in
theorem refMul_c {A A' : Option Addr} {n c n' c' : Nat} {xs ys : List Nat} {a b L L' : Nat} {w : World} (hx : NN w A n c xs a L) (hy : NN w A' n' c' ys b L') (h1 : L ≤ 1000000) (h2 : L' ≤ 1000000) :
 Calls Tryz.prog 105 #[.slice A n c, .slice A' n' c'] w fun e w' => ∃ A2 n2 c2, e = .returned (.slice A2 n2 c2) ∧ NN w' A2 n2 c2 (limbs (a * b)) (a * b) (L + L') ∧ Below w.heap.size w w' := by
 have hle := hx.le
 have hle' := hy.le
 have Hly := Lib.hid hy.isN.len
 have hsy := hy.isN.small
 have Hyv : RowKit.Hid (val ys = b) := hy.val
 have Hroom := Lib.hid (fun k => mul_room hx hy k)
 have H0 : RowKit.Hid (∀ wr : World, NN wr none 0 0 (limbs (a * val (ys.take 0))) (a * val (ys.take 0)) (L + L')) := by
  intro wr
  have e : a * val (ys.take 0) = 0 := by simp [val]
  rw [e]
  exact ⟨IsN.nil _ _, rfl, Nat.le_refl _, Nat.zero_le _⟩
 go_enter Tryz.func105, Tryz.ntmps105
 go_wp2
 go_loopw [6, 5] (fun i ov wr => ∃ (k t : Nat) (A2 : Option Addr) (n2 c2 : Nat), k ≤ n' ∧ i = .int .i64 (k : Int) ∧ ov = .slice A2 n2 c2 ∧ RowKit.Hid (t = a * val (ys.take k)) ∧ NN wr A2 n2 c2 (limbs t) t (L + L') ∧ Below w.heap.size w wr) (fun i _ _ => n' - (intOf i).toNat)
 case atStart => exact ⟨0, _, none, 0, 0, by omega, rfl, rfl, rfl, H0.out _, Below.refl _ _⟩
 case round =>
  obtain ⟨k, t, A2, n2, c2, hk, rfl, rfl, Ht, ho, bw⟩ := hrel
  have h_x := hx.below bw
  have h_y := hy.below bw
  by_cases hgo : k < n'
  · obtain ⟨b1, o1, hA, hb1, hc1⟩ := h_y.isN.2.2 (by omega)
    subst hA
    have hcell : wr.cell? ⟨b1, o1 + k, none⟩ = some (.int .u32 ((lim ys k : Nat) : Int)) := hc1 k hgo
    have l1 := lim_lt hsy k
    clear hx hy
    go_wp2_with fail
    refine (refSmall_c h_x (lim ys k) _ rfl l1 (by omega)).mono ?_
    rintro e w1 ⟨A3, n3, c3, rfl, h3, bn⟩
    replace ho := ho.below bn
    replace h_x := h_x.below bn
    replace h_y := h_y.below bn
    replace bw := below_two bw bn
    clear bn
    go_wp2_with fail
    refine (refUp_c h3 (32 * k) _ (by omega) (by omega) (by omega) (L + 1 + k) (up_fits (lt_pow h3))).mono ?_
    rintro e w2 ⟨A4, n4, c4, rfl, h4, bn⟩
    replace ho := ho.below bn
    replace h_x := h_x.below bn
    replace h_y := h_y.below bn
    replace bw := below_two bw bn
    clear bn h3
    go_wp2_with fail
    refine (refAdd_c ho h4 (by omega) (by omega)).mono ?_
    rintro e w3 ⟨A5, n5, c5, rfl, h5, bn⟩
    replace bw := below_two bw bn
    clear bn h4 ho h_x h_y
    have e1 : t + a * lim ys k * 2 ^ (32 * k) = a * val (ys.take (k + 1)) := by rw [Ht.out, mul_step]
    rw [e1] at h5
    have h6 := h5.relax (Hroom.out (k + 1))
    clear h5 e1
    obtain ⟨u, hu⟩ : ∃ u, u = a * val (ys.take (k + 1)) := ⟨_, rfl⟩
    rw [← hu] at h6
    have Hu := Lib.hid hu
    clear hu
    go_wp2
    go_roundw
    case rel => exact ⟨k + 1, u, A5, n5, c5, by omega, by go_num, rfl, Hu, h6, bw⟩
    case measure => simp [intOf]; omega
  · obtain rfl : k = n' := by omega
    have Ht2 : RowKit.Hid (t = a * b) := by
     have h := Ht.out
     rw [List.take_of_length_le (by rw [Hly.out]; exact Nat.le_refl _), Hyv.out] at h
     exact h
    clear hx hy
    go_wp2_with fail
    refine (refTrim_c ho (by omega)).mono ?_
    rintro e w4 ⟨A4, n4, c4, rfl, h4, bn⟩
    rw [Ht2.out] at h4
    go_wp2
    go_ret
    exact ⟨_, _, _, rfl, h4, below_two bw bn⟩
end Go.Proofs.YtohokfbohdoijaaGreatDoor

/- What package quo's Rem answers, as contracts over memory: the quotient and what is left, in their shortest limbs, or nothing if the divisor is 0. Conditions: both lists read as limbs, of at most 10^5 of them. -/
namespace Go.Proofs.YtohokfbohdoijaaGreatDoor.Limb
theorem top_limb {b k : Nat} (hk : (limbs b).length = k + 1) : lim (limbs b) k = b / 4294967296 ^ k ∧ 1 ≤ b / 4294967296 ^ k ∧ b / 4294967296 ^ k < 4294967296 := by
 have hb : b ≠ 0 := by intro h; rw [h, limbs_zero] at hk; simp at hk
 have h1 := length_limbs_pred hb
 rw [hk, Nat.add_sub_cancel] at h1
 have h2 := val_lt (small_limbs b)
 rw [val_limbs, hk, Nat.pow_succ] at h2
 have h3 := lim_eq_div (limbs b) (small_limbs b) k
 rw [val_limbs] at h3
 have hP : 0 < 4294967296 ^ k := Nat.pow_pos (by decide)
 have h4 : b / 4294967296 ^ k < 4294967296 := by rw [Nat.div_lt_iff_lt_mul hP, Nat.mul_comm]; exact h2
 rw [Nat.mod_eq_of_lt h4] at h3
 exact ⟨h3.symm, (Nat.le_div_iff_mul_le hP).2 (by omega), h4⟩
theorem norm_ok {b k f : Nat} (hk : (limbs b).length = k + 1) (hf : f + blen (lim (limbs b) k) = 32) : (limbs (b * 2 ^ f)).length = k + 1 ∧ 2147483648 ≤ lim (limbs (b * 2 ^ f)) k := by
 obtain ⟨e, h1, h2⟩ := top_limb hk
 rw [e] at hf
 have hP : 0 < 4294967296 ^ k := Nat.pow_pos (by decide)
 have h3 := Nat.div_mul_le_self b (4294967296 ^ k)
 have h4 := Nat.lt_mul_div_succ b hP
 generalize b / 4294967296 ^ k = t at *
 obtain ⟨s1, s2, s3⟩ := blen_spec (n := t) (by omega)
 obtain ⟨u, hu⟩ : ∃ u, blen t = u + 1 := ⟨blen t - 1, by omega⟩
 rw [hu] at s1 s2 hf
 rw [Nat.add_sub_cancel] at s1
 have e1 : 2 ^ u * 2 ^ f = 2147483648 := by rw [← Nat.pow_add, show u + f = 31 by omega]
 have e2 : 2 ^ (u + 1) * 2 ^ f = 4294967296 := by rw [← Nat.pow_add, show u + 1 + f = 32 by omega]
 have l1 : 2147483648 * 4294967296 ^ k ≤ b * 2 ^ f := by
  rw [← e1, Nat.mul_right_comm]
  exact Nat.mul_le_mul_right _ (Nat.le_trans (Nat.mul_le_mul_right _ s1) h3)
 have l2 : b * 2 ^ f < 4294967296 ^ (k + 1) := by
  rw [Nat.pow_succ]
  have h5 : b < 4294967296 ^ k * 2 ^ (u + 1) := Nat.lt_of_lt_of_le h4 (Nat.mul_le_mul_left _ s2)
  have h6 := Nat.mul_lt_mul_of_pos_right h5 (Nat.two_pow_pos f)
  rwa [Nat.mul_assoc, e2] at h6
 have hlen : (limbs (b * 2 ^ f)).length = k + 1 := by
  have a1 := length_limbs_le l2
  have a2 := lt_length_limbs (n := b * 2 ^ f) (k := k) (by have : 1 * 4294967296 ^ k ≤ 2147483648 * 4294967296 ^ k := Nat.mul_le_mul_right _ (by decide); omega)
  omega
 obtain ⟨e3, _, _⟩ := top_limb hlen
 refine ⟨hlen, ?_⟩
 rw [e3]
 exact (Nat.le_div_iff_mul_le hP).2 l1
theorem rem_back {a b f : Nat} : a * 2 ^ f % (b * 2 ^ f) / 2 ^ f = a % b := by
 rw [Nat.mul_mod_mul_right, Nat.mul_div_cancel _ (Nat.two_pow_pos f)]
theorem quo_same {a b f : Nat} : a * 2 ^ f / (b * 2 ^ f) = a / b := Nat.mul_div_mul_right _ _ (Nat.two_pow_pos f)
end Go.Proofs.YtohokfbohdoijaaGreatDoor.Limb
namespace Go.Proofs.YtohokfbohdoijaaGreatDoor
open Go.RowKit Limb
set_option linter.unusedVariables false
theorem lead_any (x : Nat) (w : World) (h1 : x < 4294967296) (f : Nat) (hf : f + blen x = 32) :
 Calls Tryz.prog 131 #[.int .u32 (x : Int)] w fun e w' => e = .returned (.int .i64 (f : Int)) ∧ w = w' := by
 have h2 : 32 - ((blen x : Nat) : Int) = (f : Int) := by omega
 have hb : blen x ≤ 32 := by omega
 have hL := len32_any (x : Int) w (by omega) (by omega)
 rw [Int.toNat_natCast] at hL
 obtain ⟨y, hy⟩ : ∃ y, y = blen x := ⟨_, rfl⟩
 rw [← hy] at h2 hb hL
 clear hf hy
 go_enter Tryz.func131, Tryz.ntmps131
 go_wp2_with fail
 refine hL.mono ?_
 rintro e w1 ⟨rfl, rfl⟩
 go_wp2
 go_ret
 exact ⟨rfl, rfl⟩
set_option maxHeartbeats 2000000 in
theorem quoRem_yes {A A' : Option Addr} {n c n' c' : Nat} {xs ys : List Nat} {a b L L' : Nat} {w : World} (hx : NN w A n c xs a L) (hy : NN w A' n' c' ys b L') (h1 : L ≤ 100000) (h2 : L' ≤ 100000) (hb : b ≠ 0) :
 Calls Tryz.prog 97 #[.slice A n c, .slice A' n' c'] w fun e w' => ∃ A1 n1 c1 A2 n2 c2, e = .returned (.tuple #[.slice A1 n1 c1, .slice A2 n2 c2, .bool true]) ∧ NN w' A1 n1 c1 (limbs (a / b)) (a / b) L ∧ NN w' A2 n2 c2 (limbs (a % b)) (a % b) L' ∧ Below w.heap.size w w' := by
 have Hl := Lib.hid (Nat.lt_trans (Nat.mod_lt a (Nat.pos_of_ne_zero hb)) (lt_pow hy))
 have Hla := Lib.hid (Nat.lt_of_le_of_lt (Nat.div_le_self a b) (lt_pow hx))
 go_enter Tryz.func97, Tryz.ntmps97
 go_wp2_with fail
 refine (trim_c hx (by omega)).mono ?_
 rintro e w1 ⟨A1, n1, c1, rfl, hx1, bn⟩
 have hy1 := hy.below bn
 have bw := bn
 clear hx hy bn
 go_wp2_with fail
 refine (trim_c hy1 (by omega)).mono ?_
 rintro e w2 ⟨A2, n2, c2, rfl, hy2, bn⟩
 replace hx1 := hx1.below bn
 replace bw := below_two bw bn
 clear bn hy1
 have hyl := hy2.isN.len
 have hxl := hx1.isN.len
 have hn2 : 0 < n2 := by rw [limbs_pos hb] at hyl; simp at hyl; omega
 have hn2e : ((n2 : Int) == 0) = false := by simp; omega
 have hle2 := hy2.le
 have hle1 := hx1.le
 have Hyl := Lib.hid hyl
 have Hxl := Lib.hid hxl
 have Hb0 := Lib.hid hb
 clear hyl hxl hb
 by_cases hlt : a < b
 · have e1 : RowKit.Hid (a / b = 0) := Nat.div_eq_of_lt hlt
   have e2 : RowKit.Hid (a % b = a) := Nat.mod_eq_of_lt hlt
   have hc := cmpI_lt hlt
   have Hc := Lib.hid hc
   have HA := Lib.hid hx1
   have Hlt := Lib.hid hlt
   clear hlt hc
   go_wp2_with fail
   refine (cmp_c HA.out hy2 (by omega) (by omega) (-1) Hc.out).mono ?_
   rintro e w3 ⟨rfl, bn⟩
   have HR := Lib.hid (HA.out.below bn)
   have HW := Lib.hid (below_two bw bn)
   clear bn bw hy2 hx1 HA
   go_wp2
   go_ret3
   refine ⟨none, 0, 0, _, _, _, rfl, ?_, ?_, HW.out⟩
   · rw [e1.out, limbs_zero]; exact ⟨IsN.nil _ _, rfl, Nat.zero_le _, Nat.zero_le _⟩
   · rw [e2.out]; exact HR.out.relax (by have := Hl.out; rwa [e2.out] at this)
 · obtain ⟨v, hv, hv0⟩ : ∃ v, cmpI a b = v ∧ 0 ≤ v := by
    rcases Nat.lt_trichotomy a b with h | h | h
    · exact absurd h hlt
    · exact ⟨0, by rw [h]; exact cmpI_eq _, by omega⟩
    · exact ⟨1, cmpI_gt h, by omega⟩
   have Hv := Lib.hid hv
   have Hge := Lib.hid (Nat.le_of_not_lt hlt)
   clear hv hlt
   go_wp2_with fail
   refine (cmp_c hx1 hy2 (by omega) (by omega) v Hv.out).mono ?_
   rintro e w3 ⟨rfl, bn⟩
   replace hx1 := hx1.below bn
   replace hy2 := hy2.below bn
   replace bw := below_two bw bn
   clear bn Hv
   obtain ⟨b2, o2, rfl, hb2, hc2⟩ := hy2.isN.2.2 hn2
   by_cases hn1 : n2 = 1
   · subst hn1
     have el : limbs b = [b] ∧ b < 4294967296 := by
      have h := Hyl.out
      rw [limbs_pos Hb0.out] at h ⊢
      simp only [List.length_cons] at h
      have h0 : limbs (b / 4294967296) = [] := List.eq_nil_of_length_eq_zero (by omega)
      have h3 := limbs_eq_nil.1 h0
      have h4 : b < 4294967296 := by omega
      rw [h0, Nat.mod_eq_of_lt h4]
      exact ⟨rfl, h4⟩
     have k3 := hc2 0 (by omega)
     rw [el.1] at k3
     have e1 : lim [b] 0 = b := rfl
     rw [e1, Nat.add_zero] at k3
     have hb4 := el.2
     clear el e1 hc2 hn2e
     go_wp2_with fail
     refine (quoSmall_yes hx1 h1 b _ rfl hb4 Hb0.out).mono ?_
     rintro e w4 ⟨A4, n4, c4, rfl, hq, bn⟩
     have Hml := Lib.hid (Nat.mod_lt a (Nat.pos_of_ne_zero Hb0.out))
     obtain ⟨r, hr⟩ : ∃ r, r = a % b := ⟨_, rfl⟩
     have Hr := Lib.hid hr
     rw [← hr] at Hml ⊢
     have hr4 : r < 4294967296 := Nat.lt_trans Hml.out hb4
     replace bw := below_two bw bn
     clear bn hx1 hy2 hr k3
     go_wp2_with fail
     refine (of_c r _ rfl (by omega) w4).mono ?_
     rintro e w5 ⟨A5, n5, c5, rfl, ho, bn⟩
     have HQ := Lib.hid (hq.below bn)
     rw [Hr.out] at ho
     have HO := Lib.hid (ho.relax Hl.out)
     have HW := Lib.hid (below_two bw bn)
     clear ho hq bn bw
     go_wp2
     go_ret3
     exact ⟨_, _, _, _, _, _, rfl, HQ.out, HO.out, HW.out⟩
   · obtain ⟨k, rfl⟩ : ∃ k, n2 = k + 1 := ⟨n2 - 1, by omega⟩
     have hne1 : (((k + 1 : Nat) : Int) == 1) = false := by simp; omega
     have hk1 : 1 ≤ k := by omega
     have k3 := hc2 k (by omega)
     have ek : ((k + 1 : Nat) : Int) - 1 = (k : Int) := by omega
     obtain ⟨t, ht⟩ : ∃ t, t = lim (limbs b) k := ⟨_, rfl⟩
     have ht4 : t < 4294967296 := by rw [ht]; exact lim_lt (small_limbs b) k
     have hbl : blen t ≤ 32 := blen_le (k := 32) ht4
     obtain ⟨f, hf⟩ : ∃ f, f + blen t = 32 := ⟨32 - blen t, by omega⟩
     have hnorm := norm_ok (f := f) Hyl.out (by rw [← ht]; exact hf)
     have HF := Lib.hid hf
     have Hnorm := Lib.hid hnorm
     rw [← ht] at k3
     have hf32 : f ≤ 32 := by omega
     have hsa : shiftV a (f : Int) = a * 2 ^ f := shiftV_up (by omega) (by omega)
     have hsb : shiftV b (f : Int) = b * 2 ^ f := shiftV_up (by omega) (by omega)
     have h2f : 2 ^ f ≤ 4294967296 := (Nat.pow_le_pow_right (n := 2) (by decide) hf32 : 2 ^ f ≤ 2 ^ 32)
     have Hsa := Lib.hid hsa
     have Hsb := Lib.hid hsb
     have Hba : RowKit.Hid (a * 2 ^ f < 4294967296 ^ (L + 1)) := by
      show _ < _
      rw [Nat.pow_succ]
      exact Nat.lt_of_lt_of_le (Nat.mul_lt_mul_of_pos_right (lt_pow hx1) (Nat.two_pow_pos f)) (Nat.mul_le_mul_left _ h2f)
     have Hbb : RowKit.Hid (b * 2 ^ f < 4294967296 ^ (L' + 1)) := by
      show _ < _
      rw [Nat.pow_succ]
      exact Nat.lt_of_lt_of_le (Nat.mul_lt_mul_of_pos_right (lt_pow hy2) (Nat.two_pow_pos f)) (Nat.mul_le_mul_left _ h2f)
     have Hab : RowKit.Hid (b * 2 ^ f ≤ a * 2 ^ f) := Nat.mul_le_mul_right _ Hge.out
     clear ht hbl hf hnorm hsa hsb h2f hc2 hn1 hn2e
     go_wp2_with fail
     refine (lead_any t w3 ht4 f HF.out).mono ?_
     rintro e w4 ⟨rfl, rfl⟩
     go_wp2_with fail
     refine (mulShift_c hx1 (f : Int) (by omega) (by omega) (a * 2 ^ f) (L + 1) Hsa.out Hba.out (by omega)).mono ?_
     rintro e w4 ⟨A4, n4, c4, rfl, ha, bn⟩
     replace hy2 := hy2.below bn
     replace bw := below_two bw bn
     clear bn hx1
     go_wp2_with fail
     refine (mulShift_c hy2 (f : Int) (by omega) (by omega) (b * 2 ^ f) (L' + 1) Hsb.out Hbb.out (by omega)).mono ?_
     rintro e w5 ⟨A5, n5, c5, rfl, hbn, bn⟩
     replace ha := ha.below bn
     replace bw := below_two bw bn
     clear bn hy2
     have hn5 : n5 = k + 1 := by have := hbn.isN.len; rw [Hnorm.out.1] at this; exact this.symm
     subst hn5
     have hle4 := ha.le
     have hcap4 := ha.cap
     have h54 : k + 1 ≤ n4 := by
      have := length_limbs_mono Hab.out
      rwa [Hnorm.out.1, ha.isN.len] at this
     have hi4 := ha.isN
     have hi5 := hbn.isN
     have HD := Lib.hid (divide_any A4 n4 c4 (limbs (a * 2 ^ f)) A5 (k + 1) c5 (limbs (b * 2 ^ f)) w5 hi4 hi5 (by omega) hcap4 (by omega) h54 (by rw [Nat.add_sub_cancel]; exact Hnorm.out.2))
     clear ha hbn hi4 hi5
     go_wp2_with fail
     refine HD.out.mono ?_
     rintro e w6 ⟨A6, n6, c6, A7, c7, zs, rfl, hq, ⟨hr, hvr⟩, bn⟩
     rw [val_limbs, val_limbs] at hvr
     rw [val_limbs, val_limbs, quo_same] at hq
     have hq2 := NN.own hq Hla.out
     have hr2 : NN w6 A7 (k + 1) c7 zs (a * 2 ^ f % (b * 2 ^ f)) (L' + 1) := ⟨hr.isN, hvr, hr.caps.1, by omega⟩
     replace bw := below_two bw bn
     have Hsr : RowKit.Hid (shiftV (a * 2 ^ f % (b * 2 ^ f)) (-(f : Int)) = a % b) := by
      show _ = _
      rw [← rem_back (a := a) (b := b) (f := f)]
      by_cases h0 : f = 0
      · rw [h0]; exact (shiftV_up (n := -((0 : Nat) : Int)) (k := 0) (by omega) (by omega)).trans (by simp)
      · exact shiftV_down (n := -(f : Int)) (k := f) (by omega) (by omega) (by omega)
     clear bn hq hr hvr HD
     go_wp2_with fail
     refine (mulShift_c hr2 (-(f : Int)) (by omega) (by omega) (a % b) L' Hsr.out Hl.out (by omega)).mono ?_
     rintro e w7 ⟨A8, n8, c8, rfl, hr3, bn⟩
     have HQ := Lib.hid (hq2.below bn)
     have HR := Lib.hid hr3
     have HW := Lib.hid (below_two bw bn)
     clear hq2 hr3 hr2 bn bw
     go_wp2
     go_ret3
     exact ⟨_, _, _, _, _, _, rfl, HQ.out, HR.out, HW.out⟩
end Go.Proofs.YtohokfbohdoijaaGreatDoor

/- What the reference's Rem of layer 3 comes to, as a contract over memory: quotient and what is left, by bits moved and taken away. Conditions: both lists read as limbs, of at most 10^5 of them. -/
namespace Go.Proofs.YtohokfbohdoijaaGreatDoor.Limb
theorem val_set_add {zs : List Nat} {q d : Nat} (hq : q < zs.length) : val (zs.set q (lim zs q + d)) = val zs + 4294967296 ^ q * d := by
 rw [val_split (zs.set q (lim zs q + d)) (q + 1) (by simp; omega), drop_succ_set, val_take_set hq, val_split zs (q + 1) (by omega), val_take_lim, Nat.mul_add]
 omega
theorem low_bit {V i : Nat} (h : V % 2 ^ (i + 1) = 0) : (V / 4294967296 ^ (i / 32) % 4294967296) ||| 2 ^ (i % 32) = V / 4294967296 ^ (i / 32) % 4294967296 + 2 ^ (i % 32) := by
 obtain ⟨c, rfl⟩ := Nat.dvd_of_mod_eq_zero h
 have e1 : 2 ^ (i + 1) = 2 ^ (32 * (i / 32)) * 2 ^ (i % 32 + 1) := by rw [← Nat.pow_add]; congr 1; omega
 have hk : i % 32 < 32 := Nat.mod_lt _ (by decide)
 have e2 : (4294967296 : Nat) = 2 ^ (i % 32 + 1) * 2 ^ (31 - i % 32) := by rw [← Nat.pow_add, show i % 32 + 1 + (31 - i % 32) = 32 by omega]
 have e3 : 2 ^ (i + 1) * c / 4294967296 ^ (i / 32) = 2 ^ (i % 32 + 1) * c := by
  rw [pow32, e1, Nat.mul_assoc, Nat.mul_div_cancel_left _ (Nat.two_pow_pos _)]
 have e4 : 2 ^ (i % 32 + 1) * c % 4294967296 = 2 ^ (i % 32 + 1) * (c % 2 ^ (31 - i % 32)) := by
  rw [show 2 ^ (i % 32 + 1) * c % 4294967296 = 2 ^ (i % 32 + 1) * c % (2 ^ (i % 32 + 1) * 2 ^ (31 - i % 32)) by rw [← e2], Nat.mul_mod_mul_left]
 rw [e3, e4]
 exact (Nat.two_pow_add_eq_or_of_lt (Nat.pow_lt_pow_right (by decide) (Nat.lt_succ_self _)) _).symm
def QInv (a b : Nat) (zs : List Nat) (left j : Nat) : Prop := a = left + b * val zs ∧ left < b * 2 ^ j ∧ val zs % 2 ^ j = 0
theorem QInv.start {a b n : Nat} (k : Nat) (hb : b ≠ 0) (h : blen a ≤ blen b + n) : QInv a b (List.replicate k 0) a (n + 1) := by
 have e0 : val (List.replicate k 0) = 0 := val_zero fun j => by simp [lim, List.getD_eq_getElem?_getD, List.getElem?_replicate]; split <;> rfl
 refine ⟨by rw [e0]; rfl, ?_, by rw [e0, Nat.zero_mod]⟩
 obtain ⟨h1, h2, h3⟩ := blen_spec hb
 have h4 : a < 2 ^ (blen b + n) := Nat.lt_of_lt_of_le (blen_lt a) (Nat.pow_le_pow_right (by decide) h)
 have h5 : 2 ^ (blen b + n) = 2 ^ (blen b - 1) * 2 ^ (n + 1) := by rw [← Nat.pow_add]; congr 1; omega
 rw [h5] at h4
 exact Nat.lt_of_lt_of_le h4 (Nat.mul_le_mul_right _ h1)
theorem mod_low {V j : Nat} (h : V % 2 ^ (j + 1) = 0) : V % 2 ^ j = 0 :=
 Nat.mod_eq_zero_of_dvd (Nat.dvd_trans ⟨2, by rw [Nat.pow_succ]⟩ (Nat.dvd_of_mod_eq_zero h))
theorem QInv.yes {a b left j : Nat} {zs : List Nat} (h : QInv a b zs left (j + 1)) (hz : Small zs) (hle : b * 2 ^ j ≤ left) (hj : j / 32 < zs.length) : QInv a b (zs.set (j / 32) (lim zs (j / 32) ||| 2 ^ (j % 32))) (left - b * 2 ^ j) j := by
 obtain ⟨h1, h2, h3⟩ := h
 have e : val (zs.set (j / 32) (lim zs (j / 32) ||| 2 ^ (j % 32))) = val zs + 2 ^ j := by
  have h4 := low_bit h3
  rw [lim_eq_div zs hz] at h4
  rw [h4, val_set_add hj, pow_move]
 refine ⟨?_, ?_, ?_⟩
 · rw [e, Nat.mul_add, h1]; omega
 · rw [Nat.pow_succ, ← Nat.mul_assoc] at h2; omega
 · rw [e, Nat.add_mod_right]; exact mod_low h3
theorem QInv.no {a b left j : Nat} {zs : List Nat} (h : QInv a b zs left (j + 1)) (hlt : left < b * 2 ^ j) : QInv a b zs left j := ⟨h.1, hlt, mod_low h.2.2⟩
theorem QInv.done {a b left : Nat} {zs : List Nat} (h : QInv a b zs left 0) (hb : b ≠ 0) : val zs = a / b ∧ left = a % b := by
 obtain ⟨h1, h2, _⟩ := h
 rw [Nat.pow_zero, Nat.mul_one] at h2
 refine ⟨?_, ?_⟩
 · rw [h1, Nat.add_mul_div_left _ _ (Nat.pos_of_ne_zero hb), Nat.div_eq_of_lt h2, Nat.zero_add]
 · rw [h1, Nat.add_mul_mod_self_left, Nat.mod_eq_of_lt h2]
theorem bit_small {x k : Nat} (h : x < 4294967296) (hk : k < 32) : x ||| 2 ^ k < 4294967296 :=
 Nat.or_lt_two_pow (n := 32) h (Nat.pow_lt_pow_right (by decide) hk)
def xAt (b j : Nat) : Nat := b * 2 ^ j / 2
theorem xAt_succ (b j : Nat) : xAt b (j + 1) = b * 2 ^ j := by
 unfold xAt; rw [Nat.pow_succ, ← Nat.mul_assoc, Nat.mul_div_cancel _ (by decide)]
end Go.Proofs.YtohokfbohdoijaaGreatDoor.Limb
namespace Go.Proofs.YtohokfbohdoijaaGreatDoor
open Go.RowKit Limb
set_option linter.unusedVariables false
theorem got3_size : (Tryz.prog.info? 170).map (·.size) = some 3 := by kernel_rfl
def Blank3 (w : World) (g : Nat) : Prop := w.heap[g]? = some (.cells #[Value.slice none 0 0, Value.slice none 0 0, Value.bool false] 170 (0, 0))
theorem Blank3.below {w w' : World} {g : Nat} (h : Blank3 w g) (hb : Below w.heap.size w w') : Blank3 w' g := by
 have hlt : g < w.heap.size := by
  rcases Nat.lt_or_ge g w.heap.size with hlt | hge
  · exact hlt
  · unfold Blank3 at h; rw [Array.getElem?_eq_none hge] at h; cases h
 exact (hb.block g hlt).trans h
theorem Blank3.cells {w : World} {g : Nat} (h : Blank3 w g) : w.cell? ⟨g, 0, none⟩ = some (.slice none 0 0) ∧ w.cell? ⟨g, 1, none⟩ = some (.slice none 0 0) ∧ w.cell? ⟨g, 2, none⟩ = some (.bool false) := by
 unfold Blank3 at h; simp [World.cell?, h]
theorem Blank3.free {w : World} {g : Nat} (h : Blank3 w g) (k : Nat) : w.frozen? ⟨g, k, none⟩ = false := by unfold Blank3 at h; simp [World.frozen?, h]
def fill3 (w : World) (g : Nat) (u v b : Value) : World := ((w.setCell ⟨g, 0, none⟩ u).setCell ⟨g, 1, none⟩ v).setCell ⟨g, 2, none⟩ b
theorem Blank3.filled {w : World} {g : Nat} (h : Blank3 w g) (u v b : Value) : (fill3 w g u v b).heap[g]? = some (.cells #[u, v, b] 170 (0, 0)) := by
 unfold Blank3 at h
 simp [fill3, World.setCell, Array.getElem?_modify, h]
def Apart (g : Nat) (A : Option Addr) (n : Nat) : Prop := 0 < n → ∀ b o s, A = some ⟨b, o, s⟩ → b ≠ g
theorem Apart.old {w : World} {A : Option Addr} {n c : Nat} {xs : List Nat} {a L g : Nat} (h : NN w A n c xs a L) (hg : w.heap.size ≤ g) : Apart g A n := by
 intro hn b o s e
 obtain ⟨b', o', e', hlt, _⟩ := h.isN.2.2 hn
 rw [e] at e'; injection e' with e'; injection e' with e' _
 omega
theorem Apart.own {w : World} {B : Nat} {A : Option Addr} {n c : Nat} {zs : List Nat} {g : Nat} (h : OwnN w B A n c zs) (hg : g < B) : Apart g A n := by
 intro hn b o s e
 obtain ⟨g', e', hB, _⟩ := h.addr hn
 rw [e] at e'; injection e' with e'; injection e' with e' _
 omega
theorem NN.elsewhere {w : World} {A : Option Addr} {n c : Nat} {xs : List Nat} {a L g : Nat} (h : NN w A n c xs a L) (hg : Apart g A n) (k : Nat) (v : Value) : NN (w.setCell ⟨g, k, none⟩ v) A n c xs a L := by
 refine ⟨⟨h.isN.1, h.isN.2.1, fun hn => ?_⟩, h.val, h.cap, h.le⟩
 obtain ⟨b, o, e, hlt, hc⟩ := h.isN.2.2 hn
 refine ⟨b, o, e, by simpa [World.setCell] using hlt, fun j hj => ?_⟩
 rw [cell_setCell_ne _ _ (by intro e2; injection e2 with e2; exact hg hn b o none e e2.symm)]
 exact hc j hj
theorem NN.fill3 {w : World} {A : Option Addr} {n c : Nat} {xs : List Nat} {a L g : Nat} (h : NN w A n c xs a L) (hg : Apart g A n) (u v b : Value) : NN (fill3 w g u v b) A n c xs a L :=
 ((h.elsewhere hg 0 u).elsewhere hg 1 v).elsewhere hg 2 b
theorem below_fill3 {w wr : World} {g : Nat} (h : Below w.heap.size w wr) (hg : w.heap.size ≤ g) (u v b : Value) : Below w.heap.size w (fill3 wr g u v b) :=
 ((h.setCell (by exact hg) _).setCell (by exact hg) _).setCell (by exact hg) _
def NumIs (V : Int) (n : Nat) : Prop := V = n
set_option maxHeartbeats 3200000 in
theorem refRem_yes {A A' : Option Addr} {n c n' c' : Nat} {xs ys : List Nat} {a b L L' : Nat} {w : World} (hx : NN w A n c xs a L) (hy : NN w A' n' c' ys b L') (h1 : L ≤ 100000) (h2 : L' ≤ 100000) (hb : b ≠ 0) :
 Calls Tryz.prog 122 #[.slice A n c, .slice A' n' c'] w fun e w' => ∃ A1 n1 c1 A2 n2 c2, e = .returned (.agg #[.slice A1 n1 c1, .slice A2 n2 c2, .bool true]) ∧ NN w' A1 n1 c1 (limbs (a / b)) (a / b) L ∧ NN w' A2 n2 c2 (limbs (a % b)) (a % b) L ∧ Below w.heap.size w w' := by
 have b0 := below_new w (.cells #[Value.slice none 0 0, Value.slice none 0 0, Value.bool false] 170)
 have hB0 : Blank3 (w.alloc (.cells #[Value.slice none 0 0, Value.slice none 0 0, Value.bool false] 170)) w.heap.size := heap_alloc_new _ _
 have hx0 := hx.below b0
 have hy0 := hy.below b0
 have hbb : 0 < blen b := Nat.pos_of_ne_zero fun h => hb (blen_eq_zero.1 h)
 have hbz : (((blen b : Nat) : Int) == 0) = false := by simp; omega
 have hba := blen_NN hx
 have hbbL := blen_NN hy
 have Hb := Lib.hid hb
 have Hla := Lib.hid (lt_pow hx)
 have hg0 : w.heap.size < (w.alloc (.cells #[Value.slice none 0 0, Value.slice none 0 0, Value.bool false] 170)).heap.size := by simp
 have hroom : b * 2 ^ (blen a - blen b) < 4294967296 ^ (L' + L) := by
  rw [Nat.pow_add]
  exact Nat.lt_of_lt_of_le (Nat.mul_lt_mul_of_pos_right (lt_pow hy) (Nat.two_pow_pos _)) (Nat.mul_le_mul_left _ (two_pow_le (by omega)))
 clear hb
 by_cases hle : blen b < blen a
 case' pos =>
  obtain ⟨n0, hn0⟩ : ∃ n0, n0 = blen a - blen b := ⟨_, rfl⟩
  have en : ((blen a : Nat) : Int) - ((blen b : Nat) : Int) = (n0 : Int) := by omega
  have eN : NumIs (n0 : Int) n0 := rfl
  obtain ⟨q0, hq0⟩ : ∃ q0, q0 = n0 / 32 := ⟨_, rfl⟩
  have eq0 : (n0 : Int) / 32 = (q0 : Int) := by omega
  have hcmp : ((blen b : Nat) : Int) < ((blen a : Nat) : Int) := by omega
  have hmk := run_made ((q0 : Int) + 1) (q0 + 1) (by omega) (by omega)
 case' neg =>
  obtain ⟨n0, hn0⟩ : ∃ n0, n0 = blen a - blen b := ⟨_, rfl⟩
  have eN : NumIs 0 n0 := by show _ = _; omega
  obtain ⟨q0, hq0⟩ : ∃ q0, q0 = n0 / 32 := ⟨_, rfl⟩
  have hcmp : ((blen a : Nat) : Int) ≤ ((blen b : Nat) : Int) := by omega
  have hmk := run_made 1 (q0 + 1) (by omega) (by omega)
 all_goals
  have hlab : blen a ≤ blen b + n0 := by omega
  have Hlab := Lib.hid hlab
  have hn0L : n0 ≤ 32 * L := by omega
  have hq0L : q0 ≤ L := by omega
  have Hq0 := Lib.hid hq0
  rw [← hn0] at hroom
  have Hroom := Lib.hid hroom
  clear hlab hle hn0 hq0 hroom
  go_enter Tryz.func122, Tryz.ntmps122
  go_wp2_with fail
  generalize w.alloc (.cells #[Value.slice none 0 0, Value.slice none 0 0, Value.bool false] 170) = w0 at *
  refine (refBits_c hy0 (by omega) _ rfl).mono ?_
  rintro e w1 ⟨rfl, rfl⟩
  go_wp2_with fail
  refine (refTrim_o hx0 (by omega)).mono ?_
  rintro e w1 ⟨A1, n1, c1, rfl, ho, bn⟩
  have hx1 := hx0.below bn
  have hy1 := hy0.below bn
  have hB1 := hB0.below bn
  have bw1 := below_two b0 bn
  have hl1 : NN w1 A1 n1 c1 (limbs a) a L := NN.own ho Hla.out
  have ap1 : Apart w.heap.size A1 n1 := Apart.own ho hg0
  have hsz1 : w.heap.size < w1.heap.size := Nat.lt_of_lt_of_le hg0 bn.size
  clear ho bn hx0 hy0 hB0 b0
  go_wp2_with fail
  refine (refBits_c hx1 (by omega) _ rfl).mono ?_
  rintro e w2 ⟨rfl, rfl⟩
  go_wp2_with fail
  refine (refBits_c hy1 (by omega) _ rfl).mono ?_
  rintro e w2 ⟨rfl, rfl⟩
  have b2 := below_new w1 (.cells (madeCells #[.int .u32 0] (q0 + 1)) 84)
  have Hq := Lib.hid (own_made w1 (q0 + 1) (by omega))
  have hy2 := hy1.below b2
  have Hl2 := Lib.hid (hl1.below b2)
  have HB2 := Lib.hid (hB1.below b2)
  have Hbw2 := Lib.hid (below_two bw1 b2)
  have Hap := Lib.hid ap1
  have Hapq := Lib.hid (Apart.old hl1 (Nat.le_refl _))
  have hsz2 : w1.heap.size < (w1.alloc (.cells (madeCells #[.int .u32 0] (q0 + 1)) 84)).heap.size := by simp
  have Hsz1 := Lib.hid hsz1
  clear hx1 hy1 hl1 hB1 bw1 ap1 b2 hsz1 hx hy
  go_wp2_with fail
  generalize w1.alloc (.cells (madeCells #[.int .u32 0] (q0 + 1)) 84) = w2 at *
  refine (refUp_o hy2 n0 _ eN (by omega) (by omega)).mono ?_
  rintro e w3 ⟨A3, n3, c3, rfl, h3, bn⟩
  have Hx3 : RowKit.Hid (NN w3 A3 n3 c3 (limbs (xAt b (n0 + 1))) (xAt b (n0 + 1)) (L' + L) ∧ Apart w1.heap.size A3 n3) := by
   have e := xAt_succ b n0
   rw [e]
   exact ⟨NN.own h3 Hroom.out, Apart.own h3 hsz2⟩
  have Hq3 := Lib.hid (Hq.out.below bn (Nat.le_refl _))
  have Hl3 : RowKit.Hid (NN w3 A1 n1 c1 (limbs a) a L ∧ Apart w1.heap.size A1 n1 ∧ Apart w.heap.size A1 n1) := ⟨Hl2.out.below bn, Hapq.out, Hap.out⟩
  have HB3 := Lib.hid (HB2.out.below bn)
  have Hbw3 := Lib.hid (below_two Hbw2.out bn)
  clear bn h3 hy2 Hq Hl2 HB2 Hbw2 Hap Hapq
  obtain ⟨gq, hgq⟩ : ∃ gq, gq = w1.heap.size := ⟨_, rfl⟩
  rw [← hgq] at Hx3 Hq3 Hl3 Hsz1 hsz2 ⊢
  clear hgq hmk
  go_wp2
  go_loopw [9, 5, 8] (fun i lv xv wr => ∃ (j left : Nat) (zs : List Nat) (A2 : Option Addr) (n2 c2 : Nat) (A3 : Option Addr) (n3 c3 : Nat), j ≤ n0 + 1 ∧ i = .int .i64 ((j : Int) - 1) ∧ lv = .slice A2 n2 c2 ∧ xv = .slice A3 n3 c3 ∧ RowKit.Hid (QInv a b zs left j) ∧
   RowKit.Hid (OwnN wr gq (some ⟨gq, 0, none⟩) (q0 + 1) (q0 + 1) zs) ∧ RowKit.Hid (NN wr A2 n2 c2 (limbs left) left L ∧ Apart gq A2 n2 ∧ Apart w.heap.size A2 n2) ∧ RowKit.Hid (NN wr A3 n3 c3 (limbs (xAt b j)) (xAt b j) (L' + L) ∧ Apart gq A3 n3) ∧ RowKit.Hid (Below w.heap.size w wr) ∧ RowKit.Hid (Blank3 wr w.heap.size)) (fun i _ _ _ => (intOf i + 1).toNat)
  case atStart => exact ⟨n0 + 1, a, _, A1, n1, c1, A3, n3, c3, Nat.le_refl _, by have e : _ = _ := eN; first | (rw [e]; go_num) | (congr 1; omega), rfl, rfl, QInv.start _ Hb.out Hlab.out, Hq3, Hl3, Hx3, Hbw3, HB3⟩
  case round =>
   clear Hq3 Hl3 Hx3 Hbw3 HB3
   obtain ⟨j, left, zs, A2, n2, c2, A3, n3, c3, hj, rfl, rfl, rfl, Hinv, Hq, Hl, Hx, Hbw, HB⟩ := hrel
   rcases j with _ | p
   · have Hd := Lib.hid (Hinv.out.done Hb.out)
     have hq := Hq.out.isN
     have hqn : NN wr (some ⟨gq, 0, none⟩) (q0 + 1) (q0 + 1) zs (val zs) (L + 1) := ⟨hq, rfl, Nat.le_refl _, by omega⟩
     have hgs : gq < wr.heap.size := by
      obtain ⟨g', e', _, hlt'⟩ := Hq.out.addr (by omega)
      injection e' with e'; injection e' with e'
      omega
     have hgs2 : w.heap.size < wr.heap.size := Nat.lt_trans Hsz1.out hgs
     clear hq hgs
     go_wp2_with fail
     refine (refTrim_o hqn (by omega)).mono ?_
     rintro e w4 ⟨A4, n4, c4, rfl, h4, bn⟩
     have hbl := HB.out.below bn
     have hQ : NN w4 A4 n4 c4 (limbs (a / b)) (a / b) L := by
      rw [Hd.out.1] at h4
      exact NN.own h4 (Nat.lt_of_le_of_lt (Nat.div_le_self _ _) Hla.out)
     have HQ : RowKit.Hid (NN w4 A4 n4 c4 (limbs (a / b)) (a / b) L ∧ Apart w.heap.size A4 n4) := ⟨hQ, Apart.own h4 hgs2⟩
     have HR : RowKit.Hid (NN w4 A2 n2 c2 (limbs (a % b)) (a % b) L ∧ Apart w.heap.size A2 n2) := by
      have h := Hl.out.1.below bn
      rw [Hd.out.2] at h
      exact ⟨h, Hl.out.2.2⟩
     have Hbl := Lib.hid hbl
     have Hbw4 := Lib.hid (below_two Hbw.out bn)
     obtain ⟨hc0, hc1, hc2⟩ := hbl.cells
     have hf0 := hbl.free 0
     have hf1 := hbl.free 1
     have hf2 := hbl.free 2
     clear h4 bn hbl hQ hqn Hd Hinv Hq Hl Hx Hbw HB hgs2
     go_wp2
     refine bodyPost_ret (results_cell_row rfl _ _ w.heap.size 170 #[Value.slice A4 n4 c4, Value.slice A2 n2 c2, Value.bool true] (0, 0) _ rfl (Hbl.out.filled _ _ _) Tryz.underlying170 rfl got3_size) rfl ?_
     exact ⟨A4, n4, c4, A2, n2, c2, rfl, HQ.out.1.fill3 HQ.out.2 _ _ _, HR.out.1.fill3 HR.out.2 _ _ _, below_fill3 Hbw4.out (Nat.le_refl _) _ _ _⟩
   · have ep : (((p + 1 : Nat) : Int) - 1) = (p : Int) := by omega
     rw [ep]
     clear ep
     have hpn : p ≤ n0 := by omega
     have Hx2 : RowKit.Hid (NN wr A3 n3 c3 (limbs (b * 2 ^ p)) (b * 2 ^ p) (L' + L) ∧ Apart gq A3 n3) := by
      have h := Hx.out
      rw [xAt_succ] at h
      exact h
     have hl := Hl.out.1
     have hx := Hx2.out.1
     by_cases hge : b * 2 ^ p ≤ left
     · have Hge := Lib.hid hge
       obtain ⟨v, hv, hv0⟩ : ∃ v : Int, cmpI left (b * 2 ^ p) = v ∧ 0 ≤ v := by
        rcases Nat.lt_or_eq_of_le hge with h | h
        · exact ⟨1, cmpI_gt h, by omega⟩
        · exact ⟨0, cmpI_same h.symm, by omega⟩
       have Hv := Lib.hid hv
       clear hge hv
       go_wp2_with fail
       refine (refCmp_c hl hx (by omega) (by omega) v Hv.out).mono ?_
       rintro e w3 ⟨rfl, rfl⟩
       go_wp2_with fail
       refine (refSub_o hl hx (by omega) (by omega) Hge.out).mono ?_
       rintro e w4 ⟨A4, n4, c4, rfl, h4, bn⟩
       have Hl4 : RowKit.Hid (NN w4 A4 n4 c4 (limbs (left - b * 2 ^ p)) (left - b * 2 ^ p) L ∧ Apart gq A4 n4 ∧ Apart w.heap.size A4 n4) := by
        have hq := Hq.out.addr (by omega)
        obtain ⟨g', e', _, hlt'⟩ := hq
        injection e' with e'; injection e' with e'
        have hgs : gq < wr.heap.size := by omega
        exact ⟨NN.own h4 (Nat.lt_of_le_of_lt (Nat.sub_le _ _) (lt_pow hl)), Apart.own h4 hgs, Apart.own h4 (Nat.lt_trans Hsz1.out hgs)⟩
       have Hq4 := Lib.hid (Hq.out.below bn (Nat.le_refl _))
       have Hx4 : RowKit.Hid (NN w4 A3 n3 c3 (limbs (b * 2 ^ p)) (b * 2 ^ p) (L' + L) ∧ Apart gq A3 n3) := ⟨hx.below bn, Hx2.out.2⟩
       have Hbw4 := Lib.hid (below_two Hbw.out bn)
       have HB4 := Lib.hid (HB.out.below bn)
       clear h4 bn Hq Hx Hx2 Hbw HB Hl hl hx
       obtain ⟨pq, hpq⟩ : ∃ pq, pq = p / 32 := ⟨_, rfl⟩
       obtain ⟨pr, hpr⟩ : ∃ pr, pr = p % 32 := ⟨_, rfl⟩
       have epq : (p : Int) / 32 = (pq : Int) := by omega
       have epr : (p : Int) % 32 = (pr : Int) := by omega
       have hpr32 : pr < 32 := by omega
       have hpq1 : pq < q0 + 1 := by rw [Hq0.out] at *; omega
       have hcell := Hq4.out.cell (k := pq) hpq1
       have hfro := Hq4.out.1.frozenAt pq
       have l1 := lim_lt Hq4.out.small pq
       obtain ⟨d, hd⟩ : ∃ d, d = lim zs pq ||| 2 ^ pr := ⟨_, rfl⟩
       have hdl : d < 4294967296 := by rw [hd]; exact bit_small l1 hpr32
       have Hst : RowKit.Hid (QInv a b (zs.set pq d) (left - b * 2 ^ p) p) := by
        have h := Hinv.out.yes Hq4.out.small Hge.out (by rw [Hq4.out.len, ← hpq]; exact hpq1)
        rw [← hpq, ← hpr, ← hd] at h
        exact h
       have Hq5 : RowKit.Hid (OwnN (w4.setCell ⟨gq, pq, none⟩ (.int .u32 (d : Int))) gq (some ⟨gq, 0, none⟩) (q0 + 1) (q0 + 1) (zs.set pq d)) := Hq4.out.set pq hdl
       have Hor : RowKit.Hid (bits BinOp.or IntKind.u32 ((lim zs pq : Nat) : Int) (2 ^ pr % 4294967296) = (d : Int)) := by
        show _ = _
        rw [two_pow_int pr hpr32, u32_or_nat _ _ l1 (two_pow_small pr hpr32), hd]
       clear hpq hpr hd
       go_wp2_with fail
       rw [Hor.out]
       have Hx5 : RowKit.Hid (NN (w4.setCell ⟨gq, pq, none⟩ (.int .u32 (d : Int))) A3 n3 c3 (limbs (b * 2 ^ p)) (b * 2 ^ p) (L' + L)) := Hx4.out.1.elsewhere Hx4.out.2 _ _
       have Hl5 : RowKit.Hid (NN (w4.setCell ⟨gq, pq, none⟩ (.int .u32 (d : Int))) A4 n4 c4 (limbs (left - b * 2 ^ p)) (left - b * 2 ^ p) L ∧ Apart gq A4 n4 ∧ Apart w.heap.size A4 n4) := ⟨Hl4.out.1.elsewhere Hl4.out.2.1 _ _, Hl4.out.2⟩
       have Hbw5 : RowKit.Hid (Below w.heap.size w (w4.setCell ⟨gq, pq, none⟩ (.int .u32 (d : Int)))) := Hbw4.out.setCell (by exact Nat.le_of_lt Hsz1.out) _
       have HB5 : RowKit.Hid (Blank3 (w4.setCell ⟨gq, pq, none⟩ (.int .u32 (d : Int))) w.heap.size) := (Below.heap_setCell w4 _ _ _ (by have := Hsz1.out; exact Nat.ne_of_lt this)).trans HB4.out
       clear Hor Hq4 Hl4 Hx4 Hbw4 HB4 hcell hfro
       generalize w4.setCell ⟨gq, pq, none⟩ (.int .u32 (d : Int)) = w5 at *
       have hx5 := Hx5.out
       refine (refDown_o hx5 1 1 rfl (by decide) (by omega)).mono ?_
       rintro e w6 ⟨A6, n6, c6, rfl, h6, bn⟩
       have hgs : gq < w5.heap.size := by
        obtain ⟨g', e', _, hlt'⟩ := Hq5.out.addr (by omega)
        injection e' with e'; injection e' with e'
        omega
       have Hx6 : RowKit.Hid (NN w6 A6 n6 c6 (limbs (xAt b p)) (xAt b p) (L' + L) ∧ Apart gq A6 n6) :=
        ⟨NN.own h6 (Nat.lt_of_le_of_lt (Nat.div_le_self _ _) (lt_pow hx5)), Apart.own h6 hgs⟩
       have Hq6 := Lib.hid (Hq5.out.below bn (Nat.le_refl _))
       have Hl6 : RowKit.Hid (NN w6 A4 n4 c4 (limbs (left - b * 2 ^ p)) (left - b * 2 ^ p) L ∧ Apart gq A4 n4 ∧ Apart w.heap.size A4 n4) := ⟨Hl5.out.1.below bn, Hl5.out.2⟩
       have Hbw6 := Lib.hid (below_two Hbw5.out bn)
       have HB6 := Lib.hid (HB5.out.below bn)
       obtain ⟨left2, hl2⟩ : ∃ t, t = left - b * 2 ^ p := ⟨_, rfl⟩
       rw [← hl2] at Hl6 Hst
       clear h6 bn Hq5 Hl5 Hx5 Hbw5 HB5 hx5 hgs hl2
       go_wp2
       go_roundw
       case rel => exact ⟨p, left2, zs.set pq d, A4, n4, c4, A6, n6, c6, by omega, by go_num, rfl, rfl, Hst, Hq6, Hl6, Hx6, Hbw6, HB6⟩
       case measure => simp [intOf]
     · have hlt : left < b * 2 ^ p := by omega
       have Hlt := Lib.hid hlt
       have Hv := Lib.hid (cmpI_lt hlt)
       clear hge hlt
       go_wp2_with fail
       refine (refCmp_c hl hx (by omega) (by omega) (-1) Hv.out).mono ?_
       rintro e w3 ⟨rfl, rfl⟩
       go_wp2_with fail
       refine (refDown_o hx 1 1 rfl (by decide) (by omega)).mono ?_
       rintro e w4 ⟨A4, n4, c4, rfl, h4, bn⟩
       have hgs : gq < wr.heap.size := by
        obtain ⟨g', e', _, hlt'⟩ := Hq.out.addr (by omega)
        injection e' with e'; injection e' with e'
        omega
       have Hx4 : RowKit.Hid (NN w4 A4 n4 c4 (limbs (xAt b p)) (xAt b p) (L' + L) ∧ Apart gq A4 n4) :=
        ⟨NN.own h4 (Nat.lt_of_le_of_lt (Nat.div_le_self _ _) (lt_pow hx)), Apart.own h4 hgs⟩
       have Hq4 := Lib.hid (Hq.out.below bn (Nat.le_refl _))
       have Hl4 : RowKit.Hid (NN w4 A2 n2 c2 (limbs left) left L ∧ Apart gq A2 n2 ∧ Apart w.heap.size A2 n2) := ⟨hl.below bn, Hl.out.2⟩
       have Hbw4 := Lib.hid (below_two Hbw.out bn)
       have HB4 := Lib.hid (HB.out.below bn)
       have Hst := Lib.hid (Hinv.out.no Hlt.out)
       clear h4 bn Hq Hx Hx2 Hbw HB Hl hl hx hgs
       go_wp2
       go_roundw
       case rel => exact ⟨p, left, zs, A2, n2, c2, A4, n4, c4, by omega, by go_num, rfl, rfl, Hst, Hq4, Hl4, Hx4, Hbw4, HB4⟩
       case measure => simp [intOf]
end Go.Proofs.YtohokfbohdoijaaGreatDoor

/- What the reference's Gcd of layer 3 comes to, as a contract over memory: the greatest divisor in common. Conditions: both lists read as limbs, of at most 40000 of them. -/
namespace Go.Proofs.YtohokfbohdoijaaGreatDoor
open Go.RowKit Limb
set_option linter.unusedVariables false
def readCells (w : World) (b o : Nat) : Nat → List Nat
 | 0 => []
 | n + 1 => readCells w b o n ++ [match w.cell? ⟨b, o + n, none⟩ with | some (.int _ i) => i.toNat | _ => 0]
def readN (w : World) (v : Value) : Nat := match v with
 | .slice (some ⟨b, o, _⟩) n _ => val (readCells w b o n)
 | _ => 0
theorem readCells_eq {w : World} {b o n : Nat} {xs : List Nat} (h : ∀ j, j < n → w.cell? ⟨b, o + j, none⟩ = some (.int .u32 ((lim xs j : Nat) : Int))) (hl : xs.length = n) : ∀ k, k ≤ n → readCells w b o k = xs.take k := by
 intro k
 induction k with
 | zero => intro _; rfl
 | succ k ih =>
  intro hk
  rw [readCells, ih (by omega), h k (by omega), List.take_succ_eq_append_getElem (by omega)]
  simp [lim, List.getD_eq_getElem?_getD, List.getElem?_eq_getElem (show k < xs.length by omega)]
theorem readN_eq {w : World} {A : Option Addr} {n c : Nat} {xs : List Nat} (h : IsN w A n xs) : readN w (.slice A n c) = val xs := by
 by_cases hn : n = 0
 · subst hn
   obtain rfl : xs = [] := List.eq_nil_of_length_eq_zero h.len
   rcases A with _ | ⟨b, o, s⟩ <;> rfl
 · obtain ⟨b, o, rfl, _, hc⟩ := h.2.2 (by omega)
   show val (readCells w b o n) = _
   rw [readCells_eq hc h.len n (Nat.le_refl _), List.take_of_length_le (by rw [h.len]; exact Nat.le_refl _)]
theorem gcd_step (x y : Nat) : Nat.gcd y (x % y) = Nat.gcd x y := by
 rw [Nat.gcd_comm x y, Nat.gcd_rec y x, Nat.gcd_comm]
def gcdN (a b : Nat) : Nat := Nat.gcd a b
theorem gcdN_step {x y g : Nat} (h : gcdN x y = g) : gcdN y (x % y) = g := by unfold gcdN at *; rw [gcd_step]; exact h
theorem gcdN_end {x g : Nat} (h : gcdN x 0 = g) : x = g := by unfold gcdN at h; rwa [Nat.gcd_zero_right] at h
set_option maxHeartbeats 800000 in
theorem refGcd_c {A A' : Option Addr} {n c n' c' : Nat} {xs ys : List Nat} {a b L L' : Nat} {w : World} (hx : NN w A n c xs a L) (hy : NN w A' n' c' ys b L') (h1 : L ≤ 40000) (h2 : L' ≤ 40000) :
 Calls Tryz.prog 90 #[.slice A n c, .slice A' n' c'] w fun e w' => ∃ A2 n2 c2, e = .returned (.slice A2 n2 c2) ∧ NN w' A2 n2 c2 (limbs (gcdN a b)) (gcdN a b) (L + L') ∧ Below w.heap.size w w' := by
 have r1 := Nat.lt_of_lt_of_le (lt_pow hx) (Nat.pow_le_pow_right (show 0 < 4294967296 by decide) (Nat.le_add_right L L'))
 have r2 := Nat.lt_of_lt_of_le (lt_pow hy) (Nat.pow_le_pow_right (show 0 < 4294967296 by decide) (Nat.le_add_left L' L))
 have R1 := Lib.hid r1
 have R2 := Lib.hid r2
 obtain ⟨g, hg⟩ : ∃ g, gcdN a b = g := ⟨_, rfl⟩
 have Hg := Lib.hid hg
 rw [hg]
 obtain ⟨K, hK⟩ : ∃ K, K = L + L' := ⟨_, rfl⟩
 have hK2 : K ≤ 80000 := by omega
 rw [← hK] at R1 R2 ⊢
 clear r1 r2 hg hK
 go_enter Tryz.func90, Tryz.ntmps90
 go_wp2_with fail
 refine (refTrim_c hx (by omega)).mono ?_
 rintro e w1 ⟨A1, n1, c1, rfl, h1', bn⟩
 have hy1 := hy.below bn
 have bw := bn
 clear hx hy bn
 go_wp2_with fail
 refine (refTrim_c hy1 (by omega)).mono ?_
 rintro e w2 ⟨A2, n2, c2, rfl, h2', bn⟩
 have HX := Lib.hid ((h1'.below bn).relax R1.out)
 have HY := Lib.hid (h2'.relax R2.out)
 have HW := Lib.hid (below_two bw bn)
 clear h1' h2' hy1 bn bw
 go_wp2
 go_loopw [5, 6] (fun xv yv wr => ∃ (x y : Nat) (A1 : Option Addr) (n1 c1 : Nat) (A2 : Option Addr) (n2 c2 : Nat), xv = .slice A1 n1 c1 ∧ yv = .slice A2 n2 c2 ∧ RowKit.Hid (gcdN x y = g) ∧ RowKit.Hid (NN wr A1 n1 c1 (limbs x) x K) ∧ RowKit.Hid (NN wr A2 n2 c2 (limbs y) y K) ∧ RowKit.Hid (Below w.heap.size w wr)) (fun _ yv wr => readN wr yv)
 case atStart => exact ⟨a, b, A1, n1, c1, A2, n2, c2, rfl, rfl, Hg, HX, HY, HW⟩
 case round =>
  clear HX HY HW Hg R1 R2
  obtain ⟨x, y, A1, n1, c1, A2, n2, c2, rfl, rfl, Hg, HX, HY, HW⟩ := hrel
  by_cases h0 : y = 0
  · subst h0
    have hn0 : n2 = 0 := by have := HY.out.len; rw [limbs_zero] at this; exact this
    subst hn0
    have HG := Lib.hid (gcdN_end Hg.out)
    go_wp2
    go_ret
    exact ⟨A1, n1, c1, rfl, by rw [← HG.out]; exact HX.out, HW.out⟩
  · have hpos : 0 < n2 := by
     have h := HY.out.len
     rw [limbs_pos h0] at h
     simp at h
     omega
    have H0 := Lib.hid h0
    have hx := HX.out
    have hy := HY.out
    clear h0
    go_wp2_with fail
    refine (refRem_yes hx hy (by omega) (by omega) H0.out).mono ?_
    rintro e w3 ⟨A3, n3, c3, A4, n4, c4, rfl, h3, h4, bn⟩
    have HX2 := Lib.hid (hy.below bn)
    have HY2 := Lib.hid h4
    have HW2 := Lib.hid (below_two HW.out bn)
    have HG2 := Lib.hid (gcdN_step Hg.out)
    have HM : RowKit.Hid (readN w3 (.slice A4 n4 c4) < readN wr (.slice A2 n2 c2)) := by
     show _ < _
     rw [readN_eq h4.isN, readN_eq hy.isN, val_limbs, val_limbs]
     exact Nat.mod_lt _ (Nat.pos_of_ne_zero H0.out)
    clear hx hy h3 h4 bn HX HY HW Hg
    have hfd : ∀ W : World, (Instr.field 170 (.agg #[.slice A3 n3 c3, .slice A4 n4 c4, .bool true]) 1).run Tryz.prog W = .ok (.slice A4 n4 c4) W := fun _ => by kernel_rfl
    go_wp2
    go_roundw
    case rel => exact ⟨y, x % y, A2, n2, c2, A4, n4, c4, rfl, rfl, HG2, HX2, HY2, HW2⟩
    case measure => exact HM.out
end Go.Proofs.YtohokfbohdoijaaGreatDoor

/- What the reference's calls of layer 5 come to, as contracts over memory: a number by ten and what is left, its decimal text, ten to a power. Conditions: lists read as limbs, of at most 10^4 of them; exponents of at most 10^4. -/
namespace Go.Proofs.YtohokfbohdoijaaGreatDoor
open Go.RowKit Limb
set_option linter.unusedVariables false
theorem OwnN.keeps {w w' : World} {B : Nat} {A : Option Addr} {n c : Nat} {zs : List Nat} (h : OwnN w B A n c zs) {row : Option Nat} {o : Obj} (hg : (w.alloc o).grownBy w' row) (hr : ∀ k, row = some k → k < B) : OwnN w' B A n c zs := by
 have ha := h.alloc o
 refine ⟨⟨h.1.1, ?_⟩, h.2⟩
 rcases ha.1.2 with h2 | ⟨g, cap, cur, hv, hB, hh, r⟩
 · exact .inl h2
 · refine .inr ⟨g, cap, cur, hv, hB, ?_, r⟩
   have hlt : g < (w.alloc o).heap.size := by
    rcases Nat.lt_or_ge g (w.alloc o).heap.size with hlt | hge
    · exact hlt
    · rw [Array.getElem?_eq_none hge] at hh; cases hh
   rw [hg.block g hlt (fun e => by have := hr g e.symm; omega)]
   exact hh
end Go.Proofs.YtohokfbohdoijaaGreatDoor
namespace Go.Proofs.YtohokfbohdoijaaGreatDoor.Limb
def decS (n : Nat) : List Nat := if n = 0 then [] else decT n
theorem decS_zero : decS 0 = [] := rfl
theorem decS_pos {n : Nat} (h : n ≠ 0) : decS n = decT n := if_neg h
theorem decS_step {n : Nat} (h : n ≠ 0) : decS n = decS (n / 10) ++ [48 + n % 10] := by
 rw [decS_pos h]
 by_cases h1 : n < 10
 · rw [decT_small h1, show n / 10 = 0 by omega, decS_zero, show n % 10 = n by omega]; rfl
 · rw [decT_big (by omega), decS_pos (by omega)]
def TInv (a : Nat) (zs : List Nat) (m : Nat) : Prop := decS a = decS m ++ zs.reverse ∧ Bytes zs
theorem TInv.start (a : Nat) : TInv a [] a := ⟨by simp, bytes_nil⟩
theorem TInv.step {a m : Nat} {zs : List Nat} (h : TInv a zs m) (h0 : m ≠ 0) : TInv a (zs ++ [48 + m % 10]) (m / 10) := by
 refine ⟨?_, bytes_append.2 ⟨h.2, bytes_cons.2 ⟨by omega, bytes_nil⟩⟩⟩
 rw [h.1, decS_step h0, List.reverse_append]; simp
theorem TInv.done {a : Nat} {zs : List Nat} (h : TInv a zs 0) : decS a = zs.reverse := by rw [h.1, decS_zero]; rfl
theorem TInv.len {a m L : Nat} {zs : List Nat} (h : TInv a zs m) (hl : a < 4294967296 ^ L) : zs.length ≤ 10 * L + 1 := by
 have h1 : (decS a).length ≤ 10 * L + 1 := by
  unfold decS
  split
  · simp
  · exact decT_len_limbs hl
 rw [h.1] at h1
 simp at h1
 omega
def RevInv (zs ys : List Nat) (i : Nat) : Prop :=
 ys.length = zs.length ∧ (∀ j, j < zs.length → lim ys j = if j < i ∨ zs.length ≤ j + i then lim zs (zs.length - 1 - j) else lim zs j) ∧ 2 * i ≤ zs.length + 1
theorem RevInv.start (zs : List Nat) : RevInv zs zs 0 := ⟨rfl, fun j hj => by rw [if_neg (by omega)], by omega⟩
theorem RevInv.step {zs ys : List Nat} {i k : Nat} (h : RevInv zs ys i) (hk : i + k + 1 = zs.length) (hik : i < k) : RevInv zs ((ys.set i (lim ys k)).set k (lim ys i)) (i + 1) := by
 obtain ⟨h1, h2, h3⟩ := h
 refine ⟨by simp [h1], fun j hj => ?_, by omega⟩
 have e1 := h2 i (by omega)
 have e2 := h2 k (by omega)
 rw [if_neg (by omega)] at e1 e2
 by_cases j1 : j = k
 · subst j1
   rw [lim_set_self (by simp; omega), e1, if_pos (by omega), show zs.length - 1 - j = i by omega]
 · rw [lim_set_ne (fun e => j1 e.symm)]
   by_cases j2 : j = i
   · subst j2
     rw [lim_set_self (by omega), e2, if_pos (by omega), show zs.length - 1 - j = k by omega]
   · rw [lim_set_ne (fun e => j2 e.symm), h2 j hj]
     by_cases c : j < i ∨ zs.length ≤ j + i
     · rw [if_pos c, if_pos (by omega)]
     · rw [if_neg c, if_neg (by omega)]
theorem eq_of_lim {xs ys : List Nat} (hl : xs.length = ys.length) (h : ∀ j, j < xs.length → lim xs j = lim ys j) : xs = ys := by
 refine List.ext_getElem hl fun j h1 h2 => ?_
 have := h j h1
 simpa [lim, List.getD_eq_getElem?_getD, List.getElem?_eq_getElem h1, List.getElem?_eq_getElem h2] using this
theorem lim_reverse {zs : List Nat} {j : Nat} (h : j < zs.length) : lim zs.reverse j = lim zs (zs.length - 1 - j) := by
 simp [lim, List.getD_eq_getElem?_getD, List.getElem?_reverse h]
theorem RevInv.done {zs ys : List Nat} {i k : Nat} (h : RevInv zs ys i) (hk : i + k + 1 = zs.length) (hik : k ≤ i) : ys = zs.reverse := by
 obtain ⟨h1, h2, h3⟩ := h
 refine eq_of_lim (by simp [h1]) fun j hj => ?_
 rw [h2 j (by omega), lim_reverse (by omega)]
 by_cases c : j < i ∨ zs.length ≤ j + i
 · rw [if_pos c]
 · rw [if_neg c, show zs.length - 1 - j = j by omega]
end Go.Proofs.YtohokfbohdoijaaGreatDoor.Limb
namespace Go.Proofs.YtohokfbohdoijaaGreatDoor
open Go.RowKit Limb
set_option linter.unusedVariables false
end Go.Proofs.YtohokfbohdoijaaGreatDoor

/- What the reference's Parse of layer 5 comes to, as a contract over memory: the number of a text of decimal digits, or that there is none. Conditions: texts that can be read. -/
namespace Go.Proofs.YtohokfbohdoijaaGreatDoor
open Go.RowKit Limb
set_option linter.unusedVariables false
def Row2 (w : World) (g : Nat) (T : TypeId) (u v : Value) : Prop := w.heap[g]? = some (.cells #[u, v] T (0, 0))
section
variable {w w' : World} {g : Nat} {T : TypeId} {u v : Value}
theorem Row2.lt (h : Row2 w g T u v) : g < w.heap.size := by
 rcases Nat.lt_or_ge g w.heap.size with hlt | hge
 · exact hlt
 · unfold Row2 at h; rw [Array.getElem?_eq_none hge] at h; cases h
theorem Row2.below (h : Row2 w g T u v) (hb : Below w.heap.size w w') : Row2 w' g T u v := (hb.block g h.lt).trans h
theorem Row2.c0 (h : Row2 w g T u v) : w.cell? ⟨g, 0, none⟩ = some u := by unfold Row2 at h; simp [World.cell?, h]
theorem Row2.c1 (h : Row2 w g T u v) : w.cell? ⟨g, 1, none⟩ = some v := by unfold Row2 at h; simp [World.cell?, h]
theorem Row2.free (h : Row2 w g T u v) (k : Nat) : w.frozen? ⟨g, k, none⟩ = false := by unfold Row2 at h; simp [World.frozen?, h]
theorem Row2.fill (h : Row2 w g T u v) (x y : Value) : ((w.setCell ⟨g, 0, none⟩ x).setCell ⟨g, 1, none⟩ y).heap[g]? = some (.cells #[x, y] T (0, 0)) := by
 unfold Row2 at h
 simp [World.setCell, Array.getElem?_modify, h]
theorem row2_new (w : World) (T : TypeId) (u v : Value) : Row2 (w.alloc (.cells #[u, v] T)) w.heap.size T u v := heap_alloc_new _ _
theorem below_fill (h : Below w.heap.size w w') (hg : w.heap.size ≤ g) (x y : Value) : Below w.heap.size w ((w'.setCell ⟨g, 0, none⟩ x).setCell ⟨g, 1, none⟩ y) :=
 (h.setCell (by exact hg) _).setCell (by exact hg) _
end
def PInv (l : List Nat) (i t : Nat) : Prop := allDig (l.take i) = true ∧ t = decV (l.take i)
theorem PInv.start (l : List Nat) : PInv l 0 0 := ⟨rfl, rfl⟩
theorem PInv.step {l : List Nat} {i t : Nat} (h : PInv l i t) (hi : i < l.length) (hd : isDig (lim l i) = true) : PInv l (i + 1) (t * 10 + (lim l i - 48)) := by
 have e : l.take (i + 1) = l.take i ++ [lim l i] := by
  rw [List.take_succ_eq_append_getElem hi]
  simp [lim, List.getD_eq_getElem?_getD, List.getElem?_eq_getElem hi]
 refine ⟨by rw [e, allDig_append, h.1]; simp [allDig, hd], by rw [e, decV_snoc, h.2]⟩
theorem PInv.lt {l : List Nat} {i t : Nat} (h : PInv l i t) (hi : l.length ≤ 2000) : t < 4294967296 ^ 223 := by
 have h1 := decV_lt h.1
 rw [← h.2] at h1
 refine Nat.lt_of_lt_of_le h1 (dec_room ?_)
 rw [List.length_take]
 omega
end Go.Proofs.YtohokfbohdoijaaGreatDoor

/- Whole numbers with a sign in memory: a struct of a sign and a list of limbs that reads as an Int; answers are in the shortest limbs, and 0 is not below 0. Texts of whole numbers. No condition. -/
namespace Go.Proofs.YtohokfbohdoijaaGreatDoor
open Go.RowKit Limb
set_option linter.unusedVariables false
def sg (z : Int) : Bool := decide (z < 0)
theorem sg_neg {z : Int} (h : z < 0) : sg z = true := by simp [sg, h]
theorem sg_pos {z : Int} (h : 0 ≤ z) : sg z = false := by simp [sg]; omega
structure ZZ (w : World) (s : Bool) (A : Option Addr) (n c : Nat) (xs : List Nat) (z : Int) (L : Nat) : Prop where
 nn : NN w A n c xs z.natAbs L
 sgn : z = if s = true then -(z.natAbs : Int) else (z.natAbs : Int)
def zOf (s : Bool) (a : Nat) : Int := if s = true then -(a : Int) else (a : Int)
theorem zOf_abs (s : Bool) (a : Nat) : (zOf s a).natAbs = a := by unfold zOf; split <;> omega
theorem ZZ.of {w : World} {s : Bool} {A : Option Addr} {n c : Nat} {xs : List Nat} {a L : Nat} (h : NN w A n c xs a L) : ZZ w s A n c xs (zOf s a) L := by
 refine ⟨by rw [zOf_abs]; exact h, ?_⟩
 rw [zOf_abs]; rfl
theorem ZZ.below {w w' : World} {s : Bool} {A : Option Addr} {n c : Nat} {xs : List Nat} {z : Int} {L : Nat} (h : ZZ w s A n c xs z L) (hb : Below w.heap.size w w') : ZZ w' s A n c xs z L := ⟨h.nn.below hb, h.sgn⟩
theorem ZZ.neg {w : World} {A : Option Addr} {n c : Nat} {xs : List Nat} {z : Int} {L : Nat} (h : ZZ w true A n c xs z L) : z = -(z.natAbs : Int) := h.sgn
theorem ZZ.pos {w : World} {A : Option Addr} {n c : Nat} {xs : List Nat} {z : Int} {L : Nat} (h : ZZ w false A n c xs z L) : z = (z.natAbs : Int) := h.sgn
theorem ZZ.mk' {w : World} {A : Option Addr} {n c : Nat} {z : Int} {L : Nat} (h : NN w A n c (limbs z.natAbs) z.natAbs L) : ZZ w (sg z) A n c (limbs z.natAbs) z L := by
 refine ⟨h, ?_⟩
 unfold sg
 by_cases h0 : z < 0
 · simp [h0]; omega
 · simp [h0]; omega
def zT (z : Int) : List Nat := if z < 0 then 45 :: decT z.natAbs else decT z.natAbs
def cmpZ (x y : Int) : Int := if x < y then -1 else if x = y then 0 else 1
theorem cmpZ_lt {x y : Int} (h : x < y) : cmpZ x y = -1 := if_pos h
theorem cmpZ_eq {x y : Int} (h : x = y) : cmpZ x y = 0 := by unfold cmpZ; rw [if_neg (by omega), if_pos h]
theorem cmpZ_gt {x y : Int} (h : y < x) : cmpZ x y = 1 := by unfold cmpZ; rw [if_neg (by omega), if_neg (by omega)]
theorem abs_add_lt {x y : Int} {K : Nat} (hx : x.natAbs < 4294967296 ^ K) (hy : y.natAbs < 4294967296 ^ K) : (x + y).natAbs < 4294967296 ^ (K + 1) := by
 rw [Nat.pow_succ]; omega
end Go.Proofs.YtohokfbohdoijaaGreatDoor

/- Mathematics of the order of whole numbers; a number's text and back. No condition. -/
namespace Go.Proofs.YtohokfbohdoijaaGreatDoor
open Go.RowKit Limb
end Go.Proofs.YtohokfbohdoijaaGreatDoor

/- Mathematics of rational numbers as they are told: Lean's own Rat, its top and its bottom; what may be; the limit of 64 limbs; none is told as 0 and nothing. No condition. -/
namespace Go.Proofs.YtohokfbohdoijaaGreatDoor
open Go.RowKit Limb
set_option linter.unusedVariables false
def fitsQ (q : Rat) : Bool := decide (q.num.natAbs < 4294967296 ^ 64) && decide (q.den < 4294967296 ^ 64)
def limQ (q : Rat) : Option Rat := if fitsQ q = true then some q else none
def limE (q : Rat) : Int := if fitsQ q = true then 0 else 2
def oTop : Option Rat → Int
 | some q => q.num
 | none => 0
def oBot : Option Rat → Nat
 | some q => q.den
 | none => 0
theorem limQ_yes {q : Rat} (h : fitsQ q = true) : limQ q = some q := if_pos h
theorem limQ_no {q : Rat} (h : fitsQ q = false) : limQ q = none := if_neg (by rw [h]; decide)
theorem limE_yes {q : Rat} (h : fitsQ q = true) : limE q = 0 := if_pos h
theorem limE_no {q : Rat} (h : fitsQ q = false) : limE q = 2 := if_neg (by rw [h]; decide)
theorem mk_num {x : Int} {b : Nat} (hb : b ≠ 0) : (mkRat x b).num.natAbs = x.natAbs / Nat.gcd x.natAbs b ∧ sg (mkRat x b).num = sg x := by
 rw [Rat.num_mkRat, if_neg hb, Nat.gcd_comm]
 have hd : ((Nat.gcd x.natAbs b : Nat) : Int) ∣ x := by
  rw [Int.ofNat_dvd_left]; exact Nat.gcd_dvd_left _ _
 have hg : 0 < Nat.gcd x.natAbs b := Nat.gcd_pos_of_pos_right _ (Nat.pos_of_ne_zero hb)
 refine ⟨by rw [Int.natAbs_ediv_of_dvd hd]; rfl, ?_⟩
 obtain ⟨k, hk⟩ := hd
 generalize Nat.gcd x.natAbs b = g at hk hg ⊢
 subst hk
 rw [Int.mul_ediv_cancel_left _ (by omega)]
 unfold sg
 rw [decide_eq_decide]
 have h2 : (0 : Int) < (g : Int) := by omega
 constructor
 · intro h; exact Int.mul_neg_of_pos_of_neg h2 h
 · intro h
   rcases Int.lt_trichotomy k 0 with h3 | h3 | h3
   · exact h3
   · subst h3; simp at h
   · have := Int.mul_pos h2 h3; omega
theorem mk_den {x : Int} {b : Nat} (hb : b ≠ 0) : (mkRat x b).den = b / Nat.gcd x.natAbs b := by
 rw [Rat.den_mkRat, if_neg hb, Nat.gcd_comm]
theorem zOf_sg {z : Int} : zOf (sg z) z.natAbs = z := by
 unfold zOf sg
 by_cases h : z < 0
 · simp [h]; omega
 · simp [h]; omega
def goodV (s : Bool) (xs ys : List Nat) : Bool :=
 decide (xs = limbs (Limb.val xs)) && decide (ys = limbs (Limb.val ys)) && decide (Limb.val ys ≠ 0) && !(s && decide (Limb.val xs = 0)) && decide (xs.length ≤ 64) && decide (ys.length ≤ 64) && decide (Nat.gcd (Limb.val xs) (Limb.val ys) = 1)
theorem goodV_iff {s : Bool} {xs ys : List Nat} : goodV s xs ys = true ↔ xs = limbs (Limb.val xs) ∧ ys = limbs (Limb.val ys) ∧ Limb.val ys ≠ 0 ∧ ¬ (s = true ∧ Limb.val xs = 0) ∧ xs.length ≤ 64 ∧ ys.length ≤ 64 ∧ Nat.gcd (Limb.val xs) (Limb.val ys) = 1 := by
 unfold goodV
 simp only [Bool.and_eq_true, decide_eq_true_eq, Bool.not_eq_true', Bool.and_eq_false_iff, decide_eq_false_iff_not]
 constructor
 · rintro ⟨⟨⟨⟨⟨⟨h1, h2⟩, h3⟩, h4⟩, h5⟩, h6⟩, h7⟩
   exact ⟨h1, h2, h3, fun ⟨a, b⟩ => by rcases h4 with h4 | h4; · rw [a] at h4; cases h4
                                       · exact h4 b, h5, h6, h7⟩
 · rintro ⟨h1, h2, h3, h4, h5, h6, h7⟩
   refine ⟨⟨⟨⟨⟨⟨h1, h2⟩, h3⟩, ?_⟩, h5⟩, h6⟩, h7⟩
   cases s with
   | false => exact .inl rfl
   | true => exact .inr fun h => h4 ⟨rfl, h⟩
def readQ (s : Bool) (xs ys : List Nat) : Option Rat := if goodV s xs ys = true then some (mkRat (zOf s (Limb.val xs)) (Limb.val ys)) else none
theorem readQ_no {s : Bool} {xs ys : List Nat} (h : goodV s xs ys = false) : readQ s xs ys = none := if_neg (by rw [h]; decide)
theorem readQ_yes {s : Bool} {xs ys : List Nat} (h : goodV s xs ys = true) : ∃ q : Rat, readQ s xs ys = some q ∧ s = sg q.num ∧ xs = limbs q.num.natAbs ∧ ys = limbs q.den ∧ fitsQ q = true ∧ q.num = zOf s (Limb.val xs) ∧ q.den = Limb.val ys := by
 obtain ⟨h1, h2, h3, h4, h5, h6, h7⟩ := goodV_iff.1 h
 have ha : (zOf s (Limb.val xs)).natAbs = Limb.val xs := zOf_abs _ _
 obtain ⟨n1, n2⟩ := mk_num (x := zOf s (Limb.val xs)) h3
 have d1 := mk_den (x := zOf s (Limb.val xs)) h3
 rw [ha, h7, Nat.div_one] at n1 d1
 have hs : sg (zOf s (Limb.val xs)) = s := by
  cases s with
  | false => apply sg_pos; unfold zOf; simp
  | true =>
   have : Limb.val xs ≠ 0 := fun e => h4 ⟨rfl, e⟩
   apply sg_neg; unfold zOf; rw [if_pos rfl]; omega
 have hn : (mkRat (zOf s (Limb.val xs)) (Limb.val ys)).num = zOf s (Limb.val xs) := by
  have e1 := zOf_sg (z := (mkRat (zOf s (Limb.val xs)) (Limb.val ys)).num)
  rw [n1, n2, hs] at e1
  exact e1.symm
 refine ⟨_, if_pos h, ?_, ?_, ?_, ?_, hn, d1⟩
 · rw [n2, hs]
 · rw [n1]; exact h1
 · rw [d1]; exact h2
 · simp only [fitsQ, Bool.and_eq_true, decide_eq_true_eq]
   rw [n1, d1]
   have l1 := val_lt (xs := xs) (by rw [h1]; exact small_limbs _)
   have l2 := val_lt (xs := ys) (by rw [h2]; exact small_limbs _)
   exact ⟨Nat.lt_of_lt_of_le l1 (Nat.pow_le_pow_right (by decide) h5), Nat.lt_of_lt_of_le l2 (Nat.pow_le_pow_right (by decide) h6)⟩
theorem goodV_told {q : Rat} (h : fitsQ q = true) : goodV (sg q.num) (limbs q.num.natAbs) (limbs q.den) = true := by
 simp only [fitsQ, Bool.and_eq_true, decide_eq_true_eq] at h
 rw [goodV_iff, val_limbs, val_limbs]
 refine ⟨rfl, rfl, q.den_nz, ?_, length_limbs_le h.1, length_limbs_le h.2, q.reduced⟩
 rintro ⟨h1, h2⟩
 unfold sg at h1
 rw [decide_eq_true_eq] at h1
 omega
theorem readQ_told {q : Rat} (h : fitsQ q = true) : readQ (sg q.num) (limbs q.num.natAbs) (limbs q.den) = some q := by
 unfold readQ
 rw [if_pos (goodV_told h), val_limbs, val_limbs, zOf_sg, Rat.mkRat_self]
theorem goodV_none : goodV false (limbs (oTop none).natAbs) (limbs (oBot none)) = false := by decide +kernel
theorem add_mk (p q : Rat) : p + q = mkRat (p.num * (q.den : Int) + q.num * (p.den : Int)) (p.den * q.den) := by
 rw [Rat.add_def, Rat.normalize_eq_mkRat]
theorem mul_mk (p q : Rat) : p * q = mkRat (p.num * q.num) (p.den * q.den) := by
 rw [Rat.mul_def, Rat.normalize_eq_mkRat]
theorem neg_top (q : Rat) : (-q).num = -q.num ∧ (-q).den = q.den := ⟨rfl, rfl⟩
theorem div_mk {p q : Rat} (h : q.num ≠ 0) : p / q = mkRat (p.num * zOf (sg q.num) q.den) (p.den * q.num.natAbs) := by
 have hq : q ≠ 0 := fun e => h (by rw [e]; rfl)
 have e1 : mkRat (p.num * zOf (sg q.num) q.den) (p.den * q.num.natAbs) = p * mkRat (zOf (sg q.num) q.den) q.num.natAbs := by
  rw [← Rat.mkRat_mul_mkRat, Rat.mkRat_self]
 rw [e1, Rat.div_def]
 congr 1
 rw [Rat.inv_def]
 rcases Int.lt_trichotomy q.num 0 with h1 | h1 | h1
 · rw [sg_neg h1]
   obtain ⟨n, hn⟩ : ∃ n : Nat, q.num = -((n : Int) + 1) := ⟨(-(q.num) - 1).toNat, by omega⟩
   rw [hn]
   have e2 : (-((n : Int) + 1)).natAbs = n + 1 := by omega
   rw [e2]
   unfold zOf
   rw [if_pos rfl, show (-((n : Int) + 1)) = Int.negSucc n by omega]
   exact Rat.normalize_eq_mkRat (Nat.succ_ne_zero n)
 · exact absurd h1 h
 · rw [sg_pos (by omega)]
   obtain ⟨n, hn⟩ : ∃ n : Nat, q.num = (n : Int) := ⟨q.num.toNat, by omega⟩
   rw [hn]
   unfold zOf
   rw [if_neg (by decide), Int.natAbs_natCast]
   rfl
def cmpQ (p q : Rat) : Int := cmpZ (p.num * (q.den : Int)) (q.num * (p.den : Int))
end Go.Proofs.YtohokfbohdoijaaGreatDoor

/- What the reference's Pow of layer 2 comes to, as a contract over memory: the power bit by bit, and whether there is one. Conditions: the list reads as limbs, of at most 10^5 of them. -/
namespace Go.Proofs.YtohokfbohdoijaaGreatDoor
open Go.RowKit Limb
set_option linter.unusedVariables false
end Go.Proofs.YtohokfbohdoijaaGreatDoor

/- What the statements' helpers keep.Int and keep.OwnInt, and the reference of layer 6, answer, as contracts over memory. Conditions: sizes of at most so many limbs. -/
namespace Go.Proofs.YtohokfbohdoijaaGreatDoor
open Go.RowKit Limb
set_option linter.unusedVariables false
theorem int_size : (Tryz.prog.info? 31).map (·.size) = some 2 := by kernel_rfl
theorem NN.put2 {w : World} {A : Option Addr} {n c : Nat} {xs : List Nat} {a L g : Nat} {T : TypeId} {b0 : Bool} {A0 : Option Addr} {n0 c0 : Nat} (h : NN w A n c xs a L) (hb : Row2 w g T (.bool b0) (.slice A0 n0 c0)) (u v : Value) : NN ((w.setCell ⟨g, 0, none⟩ u).setCell ⟨g, 1, none⟩ v) A n c xs a L := by
 refine ⟨⟨h.isN.1, h.isN.2.1, fun hn => ?_⟩, h.val, h.cap, h.le⟩
 obtain ⟨b, o, e, hlt, hc⟩ := h.isN.2.2 hn
 have hbg : b ≠ g := by
  rintro rfl
  have h1 := hc 0 hn
  unfold Row2 at hb
  match o, h1 with
  | 0, h1 => simp [World.cell?, hb] at h1
  | 1, h1 => simp [World.cell?, hb] at h1
  | o + 2, h1 => simp [World.cell?, hb] at h1
 refine ⟨b, o, e, by simpa [World.setCell] using hlt, fun j hj => ?_⟩
 rw [cell_setCell_ne _ _ (by intro e; injection e with e; exact hbg e.symm), cell_setCell_ne _ _ (by intro e; injection e with e; exact hbg e.symm)]
 exact hc j hj
section
variable {w : World} {s s' : Bool} {A A' : Option Addr} {n c n' c' : Nat} {xs ys : List Nat} {x y : Int} {L L' : Nat}
theorem keepInt_c (hx : ZZ w s A n c xs x L) (hy : ZZ w s' A' n' c' ys y L') (h1 : L ≤ 1000000000) (h2 : L' ≤ 1000000000) (v : Bool) (hv : (decide (s = s') && same xs ys) = v) :
 Calls Tryz.prog 62 #[.agg #[.bool s, .slice A n c], .agg #[.bool s', .slice A' n' c']] w fun e w' => e = .returned (.bool v) ∧ Below w.heap.size w w' := by
 have Hx := Lib.hid hx.nn
 have Hy := Lib.hid hy.nn
 have Hv := Lib.hid hv
 have HW : RowKit.Hid (Below w.heap.size w ((w.alloc (.cells #[Value.bool s, Value.slice A n c] 31)).alloc (.cells #[Value.bool s', Value.slice A' n' c'] 31))) := below_two (below_new _ _) (below_new _ _)
 clear hx hy hv
 by_cases hs : s = s'
 · subst hs
   go_enter Tryz.func62, Tryz.ntmps62
   go_wp2_with fail
   refine (keep_c (Hx.out.below HW.out) (Hy.out.below HW.out) h1 h2 v (by have := Hv.out; simpa using this)).mono ?_
   rintro e w1 ⟨rfl, bn⟩
   have HW1 := Lib.hid (below_two HW.out bn)
   clear bn HW
   go_wp2
   go_ret
   exact ⟨rfl, HW1.out⟩
 · go_enter Tryz.func62, Tryz.ntmps62
   have hs2 : (s == s') = false := by simpa using hs
   have Hv2 : RowKit.Hid (v = false) := by show _ = _; rw [← Hv.out]; simp [hs]
   clear hs Hv
   go_wp2
   go_ret
   exact ⟨by rw [Hv2.out]; rfl, HW.out⟩
end
end Go.Proofs.YtohokfbohdoijaaGreatDoor

/- Mathematics of the order of rational numbers and of how many limbs sums and products have. No condition. -/
namespace Go.Proofs.YtohokfbohdoijaaGreatDoor
open Go.RowKit Limb
set_option linter.unusedVariables false
theorem cmpQ_lt {p q : Rat} (h : p < q) : cmpQ p q = -1 := cmpZ_lt (Rat.lt_iff p q |>.1 h)
theorem cmpQ_eq {p q : Rat} (h : p = q) : cmpQ p q = 0 := by subst h; exact cmpZ_eq rfl
theorem cmpQ_gt {p q : Rat} (h : q < p) : cmpQ p q = 1 := cmpZ_gt (Rat.lt_iff q p |>.1 h)
theorem rat_tri (p q : Rat) : p < q ∨ p = q ∨ q < p := by
 by_cases h : p < q
 · exact .inl h
 · rcases Rat.le_iff_lt_or_eq.1 (Rat.not_lt.1 h) with h2 | h2
   · exact .inr (.inr h2)
   · exact .inr (.inl h2.symm)
theorem cmpQ_zero (p q : Rat) : cmpQ p q = 0 ↔ p = q := by
 constructor
 · intro h
   rcases rat_tri p q with h2 | h2 | h2
   · rw [cmpQ_lt h2] at h; cases h
   · exact h2
   · rw [cmpQ_gt h2] at h; cases h
 · exact cmpQ_eq
theorem cmpQ_top (q : Rat) : cmpQ q 0 = cmpZ q.num 0 := by
 show cmpZ (q.num * ((0 : Rat).den : Int)) ((0 : Rat).num * (q.den : Int)) = _
 have e1 : (0 : Rat).den = 1 := rfl
 have e2 : (0 : Rat).num = 0 := rfl
 rw [e1, e2]
 simp
def Bd (q : Rat) (k l : Nat) : Prop := q.num.natAbs < 4294967296 ^ k ∧ q.den < 4294967296 ^ l
theorem Bd.mono {q : Rat} {k l k' l' : Nat} (h : Bd q k l) (hk : k ≤ k') (hl : l ≤ l') : Bd q k' l' :=
 ⟨Nat.lt_of_lt_of_le h.1 (Nat.pow_le_pow_right (by decide) hk), Nat.lt_of_lt_of_le h.2 (Nat.pow_le_pow_right (by decide) hl)⟩
theorem Bd.fits {q : Rat} {k l : Nat} (h : Bd q k l) (hk : k ≤ 64) (hl : l ≤ 64) : fitsQ q = true := by
 have h2 := h.mono hk hl
 unfold fitsQ
 rw [decide_eq_true h2.1, decide_eq_true h2.2]; rfl
theorem bd_mk {x : Int} {b k l : Nat} (hb : b ≠ 0) (hx : x.natAbs < 4294967296 ^ k) (hl : b < 4294967296 ^ l) : Bd (mkRat x b) k l := by
 refine ⟨?_, ?_⟩
 · rw [(mk_num hb).1]; exact Nat.lt_of_le_of_lt (Nat.div_le_self _ _) hx
 · rw [mk_den hb]; exact Nat.lt_of_le_of_lt (Nat.div_le_self _ _) hl
theorem Bd.add {p q : Rat} {a b c d e : Nat} (h : Bd p a b) (k : Bd q c d) (h1 : a + d ≤ e) (h2 : c + b ≤ e) : Bd (p + q) (e + 1) (b + d) := by
 rw [add_mk]
 refine bd_mk (Nat.mul_ne_zero p.den_nz q.den_nz) ?_ ?_
 · have l1 : (p.num * (q.den : Int)).natAbs < 4294967296 ^ e := by
    rw [Int.natAbs_mul, Int.natAbs_natCast]
    have := Nat.mul_lt_mul'' h.1 k.2
    rw [← Nat.pow_add] at this
    exact Nat.lt_of_lt_of_le this (Nat.pow_le_pow_right (by decide) h1)
   have l2 : (q.num * (p.den : Int)).natAbs < 4294967296 ^ e := by
    rw [Int.natAbs_mul, Int.natAbs_natCast]
    have := Nat.mul_lt_mul'' k.1 h.2
    rw [← Nat.pow_add] at this
    exact Nat.lt_of_lt_of_le this (Nat.pow_le_pow_right (by decide) h2)
   exact abs_add_lt l1 l2
 · rw [Nat.pow_add]; exact Nat.mul_lt_mul'' h.2 k.2
theorem Bd.neg {q : Rat} {k l : Nat} (h : Bd q k l) : Bd (-q) k l := ⟨by rw [(neg_top q).1, Int.natAbs_neg]; exact h.1, h.2⟩
end Go.Proofs.YtohokfbohdoijaaGreatDoor

/- Blocks of three and of four cells: what they hold, what stays where they are filled. No condition. -/
namespace Go.Proofs.YtohokfbohdoijaaGreatDoor
open Go.RowKit Limb
set_option linter.unusedVariables false
def Row3 (w : World) (g : Nat) (T : TypeId) (a b c : Value) : Prop := w.heap[g]? = some (.cells #[a, b, c] T (0, 0))
section
variable {w w' : World} {g : Nat} {T : TypeId} {a b c : Value}
theorem Row3.lt (h : Row3 w g T a b c) : g < w.heap.size := by
 rcases Nat.lt_or_ge g w.heap.size with hlt | hge
 · exact hlt
 · unfold Row3 at h; rw [Array.getElem?_eq_none hge] at h; cases h
theorem Row3.below (h : Row3 w g T a b c) (hb : Below w.heap.size w w') : Row3 w' g T a b c := (hb.block g h.lt).trans h
theorem Row3.c0 (h : Row3 w g T a b c) : w.cell? ⟨g, 0, none⟩ = some a := by unfold Row3 at h; simp [World.cell?, h]
theorem Row3.c1 (h : Row3 w g T a b c) : w.cell? ⟨g, 1, none⟩ = some b := by unfold Row3 at h; simp [World.cell?, h]
theorem Row3.c2 (h : Row3 w g T a b c) : w.cell? ⟨g, 2, none⟩ = some c := by unfold Row3 at h; simp [World.cell?, h]
theorem Row3.free (h : Row3 w g T a b c) (k : Nat) : w.frozen? ⟨g, k, none⟩ = false := by unfold Row3 at h; simp [World.frozen?, h]
theorem Row3.fill (h : Row3 w g T a b c) (x y z : Value) : Row3 (((w.setCell ⟨g, 0, none⟩ x).setCell ⟨g, 1, none⟩ y).setCell ⟨g, 2, none⟩ z) g T x y z := by
 unfold Row3 at h ⊢
 simp [World.setCell, Array.getElem?_modify, h]
theorem row3_new (w : World) (T : TypeId) (a b c : Value) : Row3 (w.alloc (.cells #[a, b, c] T)) w.heap.size T a b c := heap_alloc_new _ _
theorem below_fill3' (h : Below w.heap.size w w') (hg : w.heap.size ≤ g) (x y z : Value) : Below w.heap.size w (((w'.setCell ⟨g, 0, none⟩ x).setCell ⟨g, 1, none⟩ y).setCell ⟨g, 2, none⟩ z) :=
 ((h.setCell (by exact hg) _).setCell (by exact hg) _).setCell (by exact hg) _
end
def Row4 (w : World) (g : Nat) (T : TypeId) (a b c d : Value) : Prop := w.heap[g]? = some (.cells #[a, b, c, d] T (0, 0))
section
variable {w w' : World} {g : Nat} {T : TypeId} {a b c d : Value}
theorem Row4.lt (h : Row4 w g T a b c d) : g < w.heap.size := by
 rcases Nat.lt_or_ge g w.heap.size with hlt | hge
 · exact hlt
 · unfold Row4 at h; rw [Array.getElem?_eq_none hge] at h; cases h
theorem Row4.below (h : Row4 w g T a b c d) (hb : Below w.heap.size w w') : Row4 w' g T a b c d := (hb.block g h.lt).trans h
theorem Row4.c0 (h : Row4 w g T a b c d) : w.cell? ⟨g, 0, none⟩ = some a := by unfold Row4 at h; simp [World.cell?, h]
theorem Row4.c1 (h : Row4 w g T a b c d) : w.cell? ⟨g, 1, none⟩ = some b := by unfold Row4 at h; simp [World.cell?, h]
theorem Row4.c2 (h : Row4 w g T a b c d) : w.cell? ⟨g, 2, none⟩ = some c := by unfold Row4 at h; simp [World.cell?, h]
theorem Row4.c3 (h : Row4 w g T a b c d) : w.cell? ⟨g, 3, none⟩ = some d := by unfold Row4 at h; simp [World.cell?, h]
theorem Row4.free (h : Row4 w g T a b c d) (k : Nat) : w.frozen? ⟨g, k, none⟩ = false := by unfold Row4 at h; simp [World.frozen?, h]
theorem Row4.fill (h : Row4 w g T a b c d) (x y z v : Value) : Row4 ((((w.setCell ⟨g, 0, none⟩ x).setCell ⟨g, 1, none⟩ y).setCell ⟨g, 2, none⟩ z).setCell ⟨g, 3, none⟩ v) g T x y z v := by
 unfold Row4 at h ⊢
 simp [World.setCell, Array.getElem?_modify, h]
theorem row4_new (w : World) (T : TypeId) (a b c d : Value) : Row4 (w.alloc (.cells #[a, b, c, d] T)) w.heap.size T a b c d := heap_alloc_new _ _
theorem below_fill4 (h : Below w.heap.size w w') (hg : w.heap.size ≤ g) (x y z v : Value) : Below w.heap.size w ((((w'.setCell ⟨g, 0, none⟩ x).setCell ⟨g, 1, none⟩ y).setCell ⟨g, 2, none⟩ z).setCell ⟨g, 3, none⟩ v) :=
 (((h.setCell (by exact hg) _).setCell (by exact hg) _).setCell (by exact hg) _).setCell (by exact hg) _
end
def NoLimb (w : World) (g : Nat) : Prop := ∀ o v, w.cell? ⟨g, o, none⟩ ≠ some (.int .u32 v)
theorem apart_of {w : World} {A : Option Addr} {n c : Nat} {xs : List Nat} {a L g : Nat} (h : NN w A n c xs a L) (hg : NoLimb w g) : Apart g A n := by
 intro hn b o s e
 obtain ⟨b', o', e', hlt, hc⟩ := h.isN.2.2 hn
 rw [e] at e'
 injection e' with e'
 injection e' with e1 e2
 rintro rfl
 subst e1
 exact hg _ _ (hc 0 hn)
theorem Row3.noLimb {w : World} {g : Nat} {T : TypeId} {a b c : Value} (h : Row3 w g T a b c) (ha : ∀ v, a ≠ .int .u32 v) (hb : ∀ v, b ≠ .int .u32 v) (hc : ∀ v, c ≠ .int .u32 v) : NoLimb w g := by
 intro o v e
 unfold Row3 at h
 match o, e with
 | 0, e => rw [show w.cell? ⟨g, 0, none⟩ = some a by simp [World.cell?, h]] at e; exact ha v (Option.some.inj e)
 | 1, e => rw [show w.cell? ⟨g, 1, none⟩ = some b by simp [World.cell?, h]] at e; exact hb v (Option.some.inj e)
 | 2, e => rw [show w.cell? ⟨g, 2, none⟩ = some c by simp [World.cell?, h]] at e; exact hc v (Option.some.inj e)
 | o + 3, e => simp [World.cell?, h] at e
theorem Row4.noLimb {w : World} {g : Nat} {T : TypeId} {a b c d : Value} (h : Row4 w g T a b c d) (ha : ∀ v, a ≠ .int .u32 v) (hb : ∀ v, b ≠ .int .u32 v) (hc : ∀ v, c ≠ .int .u32 v) (hd : ∀ v, d ≠ .int .u32 v) : NoLimb w g := by
 intro o v e
 unfold Row4 at h
 match o, e with
 | 0, e => rw [show w.cell? ⟨g, 0, none⟩ = some a by simp [World.cell?, h]] at e; exact ha v (Option.some.inj e)
 | 1, e => rw [show w.cell? ⟨g, 1, none⟩ = some b by simp [World.cell?, h]] at e; exact hb v (Option.some.inj e)
 | 2, e => rw [show w.cell? ⟨g, 2, none⟩ = some c by simp [World.cell?, h]] at e; exact hc v (Option.some.inj e)
 | 3, e => rw [show w.cell? ⟨g, 3, none⟩ = some d by simp [World.cell?, h]] at e; exact hd v (Option.some.inj e)
 | o + 4, e => simp [World.cell?, h] at e
theorem NN.fillR3 {w : World} {A : Option Addr} {n c : Nat} {xs : List Nat} {a L g : Nat} (h : NN w A n c xs a L) (hg : NoLimb w g) (x y z : Value) : NN (((w.setCell ⟨g, 0, none⟩ x).setCell ⟨g, 1, none⟩ y).setCell ⟨g, 2, none⟩ z) A n c xs a L :=
 ((h.elsewhere (apart_of h hg) 0 x).elsewhere (apart_of h hg) 1 y).elsewhere (apart_of h hg) 2 z
theorem NN.fillR4 {w : World} {A : Option Addr} {n c : Nat} {xs : List Nat} {a L g : Nat} (h : NN w A n c xs a L) (hg : NoLimb w g) (x y z v : Value) : NN ((((w.setCell ⟨g, 0, none⟩ x).setCell ⟨g, 1, none⟩ y).setCell ⟨g, 2, none⟩ z).setCell ⟨g, 3, none⟩ v) A n c xs a L :=
 (h.fillR3 hg x y z).elsewhere (apart_of h hg) 3 v
theorem ZZ.fillR3 {w : World} {s : Bool} {A : Option Addr} {n c : Nat} {xs : List Nat} {z : Int} {L g : Nat} (h : ZZ w s A n c xs z L) (hg : NoLimb w g) (x y v : Value) : ZZ (((w.setCell ⟨g, 0, none⟩ x).setCell ⟨g, 1, none⟩ y).setCell ⟨g, 2, none⟩ v) s A n c xs z L := ⟨h.nn.fillR3 hg x y v, h.sgn⟩
theorem ZZ.fillR4 {w : World} {s : Bool} {A : Option Addr} {n c : Nat} {xs : List Nat} {z : Int} {L g : Nat} (h : ZZ w s A n c xs z L) (hg : NoLimb w g) (x y v u : Value) : ZZ ((((w.setCell ⟨g, 0, none⟩ x).setCell ⟨g, 1, none⟩ y).setCell ⟨g, 2, none⟩ v).setCell ⟨g, 3, none⟩ u) s A n c xs z L := ⟨h.nn.fillR4 hg x y v u, h.sgn⟩
end Go.Proofs.YtohokfbohdoijaaGreatDoor

/- Mathematics of dimensions: lists of exponents, products and powers as far as exponents go, and their texts: two have one text just if they are one. No condition. -/
namespace Go.Proofs.YtohokfbohdoijaaGreatDoor
open Go.RowKit Limb
set_option linter.unusedVariables false
def goodE (x : Int) : Bool := decide (-200 ≤ x) && decide (x ≤ 200)
def goodD (ds : List Int) : Bool := ds.all goodE
theorem goodE_iff {x : Int} : goodE x = true ↔ -200 ≤ x ∧ x ≤ 200 := by unfold goodE; rw [Bool.and_eq_true, decide_eq_true_eq, decide_eq_true_eq]
theorem goodD_iff {ds : List Int} : goodD ds = true ↔ ∀ x ∈ ds, -200 ≤ x ∧ x ≤ 200 := by
 unfold goodD
 rw [List.all_eq_true]
 exact ⟨fun h x hx => goodE_iff.1 (h x hx), fun h x hx => goodE_iff.2 (h x hx)⟩
def dim0 : List Int := [0, 0, 0, 0, 0, 0, 0]
def mayD (ds : List Int) : List Int × Int := if goodD ds = true then (ds, 0) else (dim0, 2)
def mulD (a b : List Int) : List Int × Int := if goodD a = true ∧ goodD b = true then mayD (List.zipWith (· + ·) a b) else (dim0, 1)
def powD (a : List Int) (n : Int) : List Int × Int := if goodD a = true then mayD (a.map (· * n)) else (dim0, 1)
def piece (n : List Nat) (e : Int) : List Nat := n ++ (if e = 1 then [] else 94 :: zT e)
def behind : List (List Nat) → List Nat
 | [] => []
 | p :: r => 32 :: (p ++ behind r)
theorem len7 {ds : List Int} (h : ds.length = 7) : ∃ a b c d e f g, ds = [a, b, c, d, e, f, g] := by
 match ds, h with
 | [a, b, c, d, e, f, g], _ => exact ⟨a, b, c, d, e, f, g, rfl⟩
def Within (k : Int) (ds : List Int) : Prop := ∀ x ∈ ds, -k ≤ x ∧ x ≤ k
theorem Within.good {k : Int} {ds : List Int} (h : Within k ds) (hk : k ≤ 200) : goodD ds = true := goodD_iff.2 fun x hx => by have := h x hx; omega
theorem pow_clamp {x n : Int} (hx : -200 ≤ x ∧ x ≤ 200) : (goodE (x * max (-201) (min n 201)) = goodE (x * n)) ∧ (goodE (x * n) = true → x * max (-201) (min n 201) = x * n) := by
 rcases Int.lt_trichotomy x 0 with h | h | h
 · by_cases h1 : n < -201
   · have e : max (-201) (min n 201) = -201 := by omega
     have hb : ¬ (x * n ≤ 200) := by
      have := Int.mul_le_mul_of_nonpos_left (show x ≤ 0 by omega) (show n ≤ -202 by omega)
      omega
     have h2 : goodE (x * n) = false := by unfold goodE; rw [decide_eq_false hb, Bool.and_false]
     have h3 : goodE (x * -201) = false := by unfold goodE; rw [decide_eq_false (show ¬ x * -201 ≤ 200 by omega), Bool.and_false]
     rw [e, h2, h3]; exact ⟨rfl, fun h => by cases h⟩
   · by_cases h2 : 201 < n
     · have e : max (-201) (min n 201) = 201 := by omega
       have hb : ¬ (-200 ≤ x * n) := by
        have := Int.mul_le_mul_of_nonpos_left (show x ≤ 0 by omega) (show 202 ≤ n by omega)
        omega
       have h3 : goodE (x * n) = false := by unfold goodE; rw [decide_eq_false hb, Bool.false_and]
       have h4 : goodE (x * 201) = false := by unfold goodE; rw [decide_eq_false (show ¬ -200 ≤ x * 201 by omega), Bool.false_and]
       rw [e, h3, h4]; exact ⟨rfl, fun h => by cases h⟩
     · have e : max (-201) (min n 201) = n := by omega
       rw [e]; exact ⟨rfl, fun _ => rfl⟩
 · subst h; simp
 · by_cases h1 : n < -201
   · have e : max (-201) (min n 201) = -201 := by omega
     have hb : ¬ (-200 ≤ x * n) := by
      have := Int.mul_le_mul_of_nonneg_left (show n ≤ -202 by omega) (show 0 ≤ x by omega)
      omega
     have h2 : goodE (x * n) = false := by unfold goodE; rw [decide_eq_false hb, Bool.false_and]
     have h3 : goodE (x * -201) = false := by unfold goodE; rw [decide_eq_false (show ¬ -200 ≤ x * -201 by omega), Bool.false_and]
     rw [e, h2, h3]; exact ⟨rfl, fun h => by cases h⟩
   · by_cases h2 : 201 < n
     · have e : max (-201) (min n 201) = 201 := by omega
       have hb : ¬ (x * n ≤ 200) := by
        have := Int.mul_le_mul_of_nonneg_left (show 202 ≤ n by omega) (show 0 ≤ x by omega)
        omega
       have h3 : goodE (x * n) = false := by unfold goodE; rw [decide_eq_false hb, Bool.and_false]
       have h4 : goodE (x * 201) = false := by unfold goodE; rw [decide_eq_false (show ¬ x * 201 ≤ 200 by omega), Bool.and_false]
       rw [e, h3, h4]; exact ⟨rfl, fun h => by cases h⟩
     · have e : max (-201) (min n 201) = n := by omega
       rw [e]; exact ⟨rfl, fun _ => rfl⟩
end Go.Proofs.YtohokfbohdoijaaGreatDoor
