/- What the reference's Small and Up of layer 2 come to, as contracts over memory: a number times one limb, moved by bits, in shortest limbs. Conditions: the list reads as limbs, of at most 10^7 of them; moves of at most 10^7 bits. -/
import Derived.Test.YtpkjooiddejgpaaDoorRefT
import Derived.Test.YtpkjooiddejgpaaDoorMulF
namespace Go.Proofs.YtpkjooiddejgpaaDoor.Limb

/-- Limbs of a product with one limb, made one by one: those made so far, and what goes on. -/
def RSmall (xs zs : List Nat) (v k c : Nat) : Prop := zs.length = k ∧ Small zs ∧ val zs + c * 4294967296 ^ k = val (xs.take k) * v ∧ c < 4294967296

theorem RSmall.start (xs : List Nat) (v : Nat) : RSmall xs [] v 0 0 := ⟨rfl, small_nil, by simp [val], by omega⟩
theorem RSmall.step {xs zs : List Nat} {v k c lo hi : Nat} (h : RSmall xs zs v k c) (hx : Small xs) (hv : v < 4294967296) (hlo : lo < 4294967296) (e : lo + hi * 4294967296 = c + lim xs k * v) : RSmall xs (zs ++ [lo]) v (k + 1) hi := by
  obtain ⟨h1, h2, h3, h4⟩ := h
  refine ⟨by simp [h1], small_append.2 ⟨h2, by intro x hx; simp at hx; omega⟩, ?_, ?_⟩
  · rw [val_append, h1, val_take_lim, Nat.pow_succ]
    have := row_step (S := val zs) (Q := 0) (X := val (xs.take k)) (x := lim xs k) (v := v) (p := 0) (cr := c) (P := 4294967296 ^ k) (lo := lo) (hi := hi) (by rw [h3, Nat.zero_add, Nat.mul_comm]) (by rw [e, Nat.add_zero])
    simp only [val, Nat.mul_zero, Nat.add_zero, Nat.zero_add] at this ⊢
    rw [this, Nat.mul_comm]
  · have := limb_prod (lim_lt hx k) hv
    omega
theorem RSmall.done {xs zs : List Nat} {v k c : Nat} (h : RSmall xs zs v k c) (hx : xs.length = k) : Small (zs ++ [c]) ∧ val (zs ++ [c]) = val xs * v := by
  obtain ⟨h1, h2, h3, h4⟩ := h
  refine ⟨small_append.2 ⟨h2, by intro x hx; simp at hx; omega⟩, ?_⟩
  rw [List.take_of_length_le (by omega)] at h3
  rw [val_append, h1, ← h3, Nat.mul_comm c]
  simp [val]

/-- Limbs of a number moved up, made one by one behind q noughts. -/
def RUp (xs zs : List Nat) (q r k c : Nat) : Prop := zs.length = q + k ∧ Small zs ∧ val zs + c * 4294967296 ^ (q + k) = 4294967296 ^ q * val (xs.take k) * 2 ^ r ∧ c < 2 ^ r

theorem RUp.start (xs : List Nat) (q r : Nat) : RUp xs (List.replicate q 0) q r 0 0 := by
  refine ⟨by simp, small_zeros q, ?_, Nat.two_pow_pos _⟩
  have := val_zeros q []
  rw [List.append_nil] at this
  rw [this]; simp [val]
theorem RUp.step {xs zs : List Nat} {q r k c lo hi : Nat} (h : RUp xs zs q r k c) (hx : Small xs) (hlo : lo < 4294967296) (e : lo + hi * 4294967296 = c + lim xs k * 2 ^ r) : RUp xs (zs ++ [lo]) q r (k + 1) hi := by
  obtain ⟨h1, h2, h3, h4⟩ := h
  refine ⟨by simp [h1]; omega, small_append.2 ⟨h2, by intro x hx; simp at hx; omega⟩, ?_, ?_⟩
  · rw [val_append, h1, val_take_lim, ← Nat.add_assoc, Nat.pow_succ]
    have := row_step (S := val zs) (Q := 0) (X := 4294967296 ^ q * val (xs.take k)) (x := lim xs k) (v := 2 ^ r) (p := 0) (cr := c) (P := 4294967296 ^ (q + k)) (lo := lo) (hi := hi) (by rw [h3, Nat.zero_add, Nat.mul_comm]) (by rw [e, Nat.add_zero])
    simp only [val, Nat.mul_zero, Nat.add_zero, Nat.zero_add] at this ⊢
    have e2 : 4294967296 ^ (q + k) * lim xs k = 4294967296 ^ q * (4294967296 ^ k * lim xs k) := by rw [Nat.pow_add, Nat.mul_assoc]
    rw [this, e2, ← Nat.mul_add, Nat.mul_comm]
  · have h5 : lim xs k * 2 ^ r ≤ 4294967295 * 2 ^ r := Nat.mul_le_mul_right _ (by have := lim_lt hx k; omega)
    omega
theorem RUp.done {xs zs : List Nat} {q r k c : Nat} (h : RUp xs zs q r k c) (hx : xs.length = k) (hr : r < 32) : Small (zs ++ [c]) ∧ val (zs ++ [c]) = 4294967296 ^ q * val xs * 2 ^ r := by
  obtain ⟨h1, h2, h3, h4⟩ := h
  have hc : c < 4294967296 := by
    have : 2 ^ r < 2 ^ 32 := Nat.pow_lt_pow_right (by decide) hr
    omega
  refine ⟨small_append.2 ⟨h2, by intro x hx; simp at hx; omega⟩, ?_⟩
  rw [List.take_of_length_le (by omega)] at h3
  rw [val_append, h1, ← h3, Nat.mul_comm c]
  simp [val]

theorem RUp.or {c x r : Nat} (h : c < 2 ^ r) : c ||| x * 2 ^ r = c + x * 2 ^ r := by
  rw [Nat.or_comm, Nat.mul_comm, ← Nat.two_pow_add_eq_or_of_lt h]
  omega

end Go.Proofs.YtpkjooiddejgpaaDoor.Limb
namespace Go.Proofs.YtpkjooiddejgpaaDoor
open Go.RowKit Limb
set_option linter.unusedVariables false

set_option maxHeartbeats 800000 in
theorem refSmall_c {A : Option Addr} {n c : Nat} {xs : List Nat} {a L : Nat} {w : World} (hx : NN w A n c xs a L) (v : Nat) (V : Int) (hV : V = v) (hv : v < 4294967296) (h1 : L ≤ 100000000) :
    Calls Tryd.prog 24 #[.slice A n c, .int .u32 V] w fun e w' => ∃ A2 n2 c2, e = .returned (.slice A2 n2 c2) ∧ NN w' A2 n2 c2 (limbs (a * v)) (a * v) (L + 1) ∧ Below w.heap.size w w' := by
  subst hV
  have hle := hx.le
  have Hlx := Lib.hid hx.isN.len
  have hsx := hx.isN.small
  go_enter Tryd.func24, Tryd.ntmps24
  go_wp2
  go_loopw [7, 6, 5] (fun i cy ov wr => ∃ (k cr : Nat) (zs : List Nat) (A2 : Option Addr) (c2 : Nat), k ≤ n ∧ i = .int .i64 (k : Int) ∧ cy = .int .u64 (cr : Int) ∧ ov = .slice A2 k c2 ∧ RowKit.Hid (RSmall xs zs v k cr) ∧ OwnN wr w.heap.size A2 k c2 zs ∧ Below w.heap.size w wr) (fun i _ _ _ => n - (intOf i).toNat)
  case atStart => exact ⟨0, 0, [], none, 0, by omega, rfl, rfl, rfl, RSmall.start _ _, OwnN.nil _ _, Below.refl _ _⟩
  case round =>
    obtain ⟨k, cr, zs, A2, c2, hk, rfl, rfl, rfl, Hinv, how, bw⟩ := hrel
    have hcr := Hinv.out.2.2.2
    by_cases hgo : k < n
    · obtain ⟨b1, o1, rfl, hb1, hc1⟩ := hx.isN.2.2 (by omega)
      have hcell : wr.cell? ⟨b1, o1 + k, none⟩ = some (.int .u32 ((lim xs k : Nat) : Int)) := (bw.cell (p := ⟨b1, o1 + k, none⟩) hb1).trans (hc1 k hgo)
      have l1 := lim_lt hsx k
      have hq := limb_prod l1 hv
      have eI : ((lim xs k * v : Nat) : Int) = ((lim xs k : Nat) : Int) * (v : Int) := Int.natCast_mul _ _
      have hq1 : ((lim xs k : Nat) : Int) * (v : Int) ≤ 18446744065119617025 := by omega
      have hq0 : 0 ≤ ((lim xs k : Nat) : Int) * (v : Int) := by omega
      obtain ⟨sl, hsl⟩ : ∃ sl, sl = (cr + lim xs k * v) % 4294967296 := ⟨_, rfl⟩
      obtain ⟨sh, hsh⟩ : ∃ sh, sh = (cr + lim xs k * v) / 4294967296 := ⟨_, rfl⟩
      have es : ((cr : Int) + ((lim xs k : Nat) : Int) * (v : Int)) % 4294967296 = ((sl : Nat) : Int) := by omega
      have eh : ((cr : Int) + ((lim xs k : Nat) : Int) * (v : Int)) / 4294967296 = ((sh : Nat) : Int) := by omega
      have hsl2 : sl < 4294967296 := by omega
      have Hst : RowKit.Hid (RSmall xs (zs ++ [sl]) v (k + 1) sh) := Hinv.out.step hsx hv hsl2 (by omega)
      have Hown : RowKit.Hid ((wr.alloc (.cells #[Value.int IntKind.u32 (sl : Int)] 39)).ownsRow w.heap.size 39 1 (.slice A2 k c2) k (zs.map limV)) := (how.alloc _).row
      have Hlit : RowKit.Hid (NN (wr.alloc (.cells #[Value.int IntKind.u32 (sl : Int)] 39)) (some ⟨wr.heap.size, 0, none⟩) 1 1 [sl] (val [sl]) 1) := lit_c wr [sl] (by intro x hx; simp at hx; omega) 1 rfl
      have Hb : RowKit.Hid (k ≤ 1000000000 ∧ 1 ≤ 1000000000 ∧ w.heap.size ≤ (wr.alloc (.cells #[Value.int IntKind.u32 (sl : Int)] 39)).heap.size ∧ Small zs) := ⟨by omega, by omega, by have := bw.size; simp; omega, how.small⟩
      have How := Lib.hid how
      have Hbw := Lib.hid bw
      clear hq eI hsl hsh hsl2 how bw
      go_wp2_with (at_builtin; refine wpList_append_nat rfl _ _ rfl w.heap.size _ k zs rfl Hown (some ⟨wr.heap.size, 0, none⟩) 1 1 [sl] (val [sl]) 1 rfl Hlit Hb ?_)
      intro A3 c3 w3 how3 hg3
      have bw3 := below_grown Hbw.out How.out hg3.out
      have How3 := how3.out
      clear how3 hg3 Hown Hlit Hb How Hbw
      go_wp2
      go_roundw
      case rel => exact ⟨k + 1, sh, zs ++ [sl], A3, c3, by omega, by go_num, rfl, rfl, Hst, How3, bw3⟩
      case measure => simp [intOf]; omega
    · obtain rfl : k = n := by omega
      have Hd := Lib.hid (Hinv.out.done Hlx.out)
      have Hown : RowKit.Hid ((wr.alloc (.cells #[Value.int IntKind.u32 (cr : Int)] 39)).ownsRow w.heap.size 39 1 (.slice A2 k c2) k (zs.map limV)) := (how.alloc _).row
      have Hlit : RowKit.Hid (NN (wr.alloc (.cells #[Value.int IntKind.u32 (cr : Int)] 39)) (some ⟨wr.heap.size, 0, none⟩) 1 1 [cr] (val [cr]) 1) := lit_c wr [cr] (by intro x hx; simp at hx; omega) 1 rfl
      have Hb : RowKit.Hid (k ≤ 1000000000 ∧ 1 ≤ 1000000000 ∧ w.heap.size ≤ (wr.alloc (.cells #[Value.int IntKind.u32 (cr : Int)] 39)).heap.size ∧ Small zs) := ⟨by omega, by omega, by have := bw.size; simp; omega, how.small⟩
      have How := Lib.hid how
      have Hbw := Lib.hid bw
      have hav : val xs = a := hx.val
      clear how bw
      go_wp2_with (at_builtin; refine wpList_append_nat rfl _ _ rfl w.heap.size _ k zs rfl Hown (some ⟨wr.heap.size, 0, none⟩) 1 1 [cr] (val [cr]) 1 rfl Hlit Hb ?_)
      intro A3 c3 w3 how3 hg3
      have bw3 := below_grown Hbw.out How.out hg3.out
      have hz : NN w3 A3 (k + 1) c3 (zs ++ [cr]) (a * v) (L + 1) := ⟨how3.out.isN, by rw [Hd.out.2, hav], how3.out.caps.1, by omega⟩
      clear how3 hg3 Hown Hlit Hb How Hbw hav
      go_wp2_with fail
      refine (refTrim_c hz (by omega)).mono ?_
      rintro e w4 ⟨A4, n4, c4, rfl, h4, bn⟩
      go_wp2
      go_ret
      exact ⟨_, _, _, rfl, h4, below_two bw3 bn⟩

/-- Making a row of limbs with room. -/
theorem run_made2 (V C : Int) (n cap : Nat) (hV : V = n) (hC : C = cap) (hn : n ≤ cap) (hc : cap ≤ 2000000000) (W : World) : (Instr.makeSlice 23 (.int .i64 V) (.int .i64 C)).run Tryd.prog W = .ok (.slice (some ⟨W.heap.size, 0, none⟩) n cap) (W.alloc (.cells (madeCells #[.int .u32 0] cap) 39)) := by
  subst hV
  subst hC
  obtain ⟨i0, hi, hz0, hz1, hz2⟩ := info_parts u32_info
  have h := run_make (P := Tryd.prog) W 23 39 i0 (.int .u32 0) Tryd.underlying23 hi hz0 .i64 .i64 (n : Int) (cap : Int) (by omega) (by omega) (by rw [hz2]; omega) (by omega)
  rw [hz1] at h
  rw [Int.toNat_natCast, Int.toNat_natCast, Nat.mul_one] at h
  exact h

/-- A row that was made just now, with room. -/
theorem own_made2 (w : World) (n cap : Nat) (hn : n ≤ cap) (hc : cap ≤ 2000000000) : OwnN (w.alloc (.cells (madeCells #[.int .u32 0] cap) 39)) w.heap.size (some ⟨w.heap.size, 0, none⟩) n cap (List.replicate n 0) := by
  have Hg : (w.alloc (.cells (madeCells #[.int .u32 0] cap) 39)).heap[w.heap.size]? = some (.cells (List.replicate cap (Value.int .u32 0)).toArray 39 (0, 0)) := by
    rw [heap_alloc_new, ← toList_madeCells_one]
  refine ⟨⟨by simp, .inr ⟨w.heap.size, cap, _, rfl, Nat.le_refl _, Hg, hn, by unfold maxLen; omega, ?_, ?_⟩⟩, small_zeros _⟩
  · simp
  · simp [limV, List.take_replicate, Nat.min_eq_left hn]

end Go.Proofs.YtpkjooiddejgpaaDoor
