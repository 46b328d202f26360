/- Part 1 of the texts that the statements of this seat lean on: mathematics, and what functions answer, as contracts over memory; each part says its own conditions. -/
import Derived.Test.YtjikaojffgjndaaGreatDoorM0
import Derived.Laws.BitsAllLaws
import Derived.Laws.CopyOwn
import Derived.BigQuiet
import Derived.Deep.QuietTactic
import Derived.Deep.Draws
import Derived.Lib.BitFns
import Derived.Maps.AppendAt
/- What math/bits' Add32, Sub32 answer at package nat's carries, and small helpers. Conditions: the arguments are 32-bit words, the carry is 0 or 1. -/
namespace Go.Proofs.YtjikaojffgjndaaGreatDoor
open Go.RowKit Limb
set_option linter.unusedVariables false
set_option maxHeartbeats 400000 in
theorem add32_any (x y c : Int) (w : World) (hx : 0 ≤ x ∧ x < 4294967296) (hy : 0 ≤ y ∧ y < 4294967296) (hc : 0 ≤ c ∧ c < 4294967296) :
 Calls Tryz.prog 142 #[.int .u32 x, .int .u32 y, .int .u32 c] w fun e w' => e = .returned (.tuple #[.int .u32 ((x + y + c) % 4294967296), .int .u32 ((x + y + c) / 4294967296)]) ∧ w = w' := by
 obtain ⟨hx0, hx1⟩ := hx
 obtain ⟨hy0, hy1⟩ := hy
 obtain ⟨hc0, hc1⟩ := hc
 go_enter Tryz.func142, Tryz.ntmps142
 go_wp2
 go_ret2
 exact ⟨rfl, rfl⟩
def bor (x y c : Int) : Int := if x < y + c then 1 else 0
theorem borrow_eq (x y c : Int) (hx0 : 0 ≤ x) (hx1 : x < 4294967296) (hy0 : 0 ≤ y) (hy1 : y < 4294967296) (hc0 : 0 ≤ c) (hc1 : c ≤ 1) :
 bits BinOp.or IntKind.u32 (bits BinOp.and IntKind.u32 (bits BinOp.xor IntKind.u32 IntKind.u32.max x) y) (bits BinOp.and IntKind.u32 (bits BinOp.xor IntKind.u32 IntKind.u32.max (bits BinOp.xor IntKind.u32 x y)) ((x - y - c) % 4294967296)) / 2147483648 = bor x y c := by
 have hd0 : 0 ≤ (x - y - c) % 4294967296 := Int.emod_nonneg _ (by decide)
 have hd1 : (x - y - c) % 4294967296 < 4294967296 := Int.emod_lt_of_pos _ (by decide)
 have hd2 : (x - y - c) % 4294967296 = x - y - c ∨ (x - y - c) % 4294967296 = x - y - c + 4294967296 := by omega
 obtain ⟨d, hd⟩ : ∃ d, d = (x - y - c) % 4294967296 := ⟨_, rfl⟩
 rw [← hd] at hd0 hd1 hd2 ⊢
 clear hd
 obtain ⟨x, rfl⟩ := Int.eq_ofNat_of_zero_le hx0
 obtain ⟨y, rfl⟩ := Int.eq_ofNat_of_zero_le hy0
 obtain ⟨d, rfl⟩ := Int.eq_ofNat_of_zero_le hd0
 have mx : IntKind.u32.max = ((4294967295 : Nat) : Int) := rfl
 have h1 : (4294967295 : Nat) < 4294967296 := by decide
 have hx : x < 4294967296 := by omega
 have hy : y < 4294967296 := by omega
 have hd : d < 4294967296 := by omega
 rw [mx, u32_xor_nat _ _ h1 hx, u32_and_nat _ _ (lt_xor h1 hx) hy, u32_xor_nat _ _ hx hy, u32_xor_nat _ _ h1 (lt_xor hx hy), u32_and_nat _ _ (lt_xor h1 (lt_xor hx hy)) hd,
  u32_or_nat _ _ (lt_and hy) (lt_and hd)]
 have e := borrow_bits x y d hx hy hd
 have e2 : ((((4294967295 ^^^ x) &&& y) ||| ((4294967295 ^^^ (x ^^^ y)) &&& d) : Nat) : Int) / 2147483648 = (((((4294967295 ^^^ x) &&& y) ||| ((4294967295 ^^^ (x ^^^ y)) &&& d)) / 2147483648 : Nat) : Int) := rfl
 rw [e2, e]
 clear e e2
 unfold bor
 by_cases a1 : 2147483648 ≤ x <;> by_cases a2 : 2147483648 ≤ y <;> by_cases a3 : 2147483648 ≤ d <;> simp [a1, a2, a3] <;> omega
theorem congr_ret {a b c d : Int} (h : a = b) (k : c = d) : Ending.returned (.tuple #[.int .u32 a, .int .u32 c]) = Ending.returned (.tuple #[.int .u32 b, .int .u32 d]) := by rw [h, k]
set_option maxHeartbeats 400000 in
theorem sub32_any (x y c : Int) (w : World) (hx : 0 ≤ x ∧ x < 4294967296) (hy : 0 ≤ y ∧ y < 4294967296) (hc : 0 ≤ c ∧ c ≤ 1) :
 Calls Tryz.prog 146 #[.int .u32 x, .int .u32 y, .int .u32 c] w fun e w' => e = .returned (.tuple #[.int .u32 ((x - y - c) % 4294967296), .int .u32 (bor x y c)]) ∧ w = w' := by
 obtain ⟨hx0, hx1⟩ := hx
 obtain ⟨hy0, hy1⟩ := hy
 obtain ⟨hc0, hc1⟩ := hc
 have hs : IntKind.u32.signed = false := rfl
 go_enter Tryz.func146, Tryz.ntmps146
 go_wp2
 go_ret2
 refine ⟨?_, rfl⟩
 have hd0 : 0 ≤ (x - y - c) % 4294967296 := Int.emod_nonneg _ (by decide)
 have hd1 : (x - y - c) % 4294967296 < 4294967296 := Int.emod_lt_of_pos _ (by decide)
 have e0 : ((x - y) % 4294967296 - c) % 4294967296 = (x - y - c) % 4294967296 := by omega
 have e1 : bits BinOp.or IntKind.u32 (bits BinOp.and IntKind.u32 (bits BinOp.xor IntKind.u32 IntKind.u32.max x) y) (bits BinOp.and IntKind.u32 (bits BinOp.xor IntKind.u32 IntKind.u32.max (bits BinOp.xor IntKind.u32 x y)) ((x - y - c) % 4294967296)) / 2147483648 = bor x y c :=
  borrow_eq x y c hx0 hx1 hy0 hy1 hc0 hc1
 exact congr_ret e0 e1
theorem order_any (b : Bool) (w : World) : Calls Tryz.prog 143 #[.bool b] w fun e w' => e = .returned (.int .i64 (if b then -1 else 1)) ∧ w = w' := by
 cases b
 all_goals
  go_enter Tryz.func143, Tryz.ntmps143
  go_wp2
  go_ret
  exact ⟨rfl, rfl⟩
end Go.Proofs.YtjikaojffgjndaaGreatDoor

/- What package nat's helpers cut and copied answer, as contracts over memory: the limbs that count, in the same memory; a copy in new memory. Conditions: the argument reads as limbs, of at most 2^46 of them. -/
namespace Go.Proofs.YtjikaojffgjndaaGreatDoor
open Go.RowKit Limb
set_option linter.unusedVariables false
set_option maxHeartbeats 400000 in
theorem cut_any (A : Option Addr) (n c : Nat) (xs : List Nat) (w : World) (hx : IsN w A n xs) (hc : n ≤ c) (hm : n ≤ maxLen) :
 Calls Tryz.prog 129 #[.slice A n c] w fun e w' => e = .returned (.slice A (trim xs).length c) ∧ w = w' := by
 unfold maxLen at hm
 have hl := hx.len
 go_enter Tryz.func129, Tryz.ntmps129
 go_wp2
 go_loop [3] (fun i => ∃ k : Nat, k ≤ n ∧ i = .int .i64 k ∧ trim (xs.take k) = trim xs) (fun i => (intOf i).toNat)
 case atStart => exact ⟨n, Nat.le_refl _, rfl, by rw [List.take_of_length_le (by omega)]⟩
 case round =>
  obtain ⟨k, hk, rfl, ht⟩ := hrel
  by_cases hk0 : k = 0
  · subst hk0
    go_wp2
    go_ret
    refine ⟨?_, rfl⟩
    rw [← ht]; rfl
  · obtain ⟨b, o, rfl, hb, hcell⟩ := hx.2.2 (by omega)
    have h1 := hcell (k - 1) (by omega)
    have hlt := lim_lt hx.small (k - 1)
    by_cases hz : lim xs (k - 1) = 0
    · have h2 : trim (xs.take k) = trim (xs.take (k - 1)) := by
       have := trim_take_last (xs := xs) (k := k - 1) (by omega) hz
       rwa [Nat.sub_add_cancel (by omega)] at this
      have H2 := Lib.hid (h2.symm.trans ht)
      clear h2 ht
      rw [hz] at h1
      clear hz
      go_wp2
      go_round
      case rel => exact ⟨k - 1, by omega, by go_num, H2.out⟩
      case measure => simp [intOf]; omega
    · have h2 : trim (xs.take k) = xs.take k := by
       have := trim_take_full (xs := xs) (k := k - 1) (by omega) hz
       rwa [Nat.sub_add_cancel (by omega)] at this
      have H2 : RowKit.Hid ((trim xs).length = k) := Lib.hid (by rw [← ht, h2, List.length_take]; omega)
      clear h2 ht
      have hz' : (((lim xs (k - 1) : Nat) : Int) == 0) = false := by simp; exact hz
      go_wp2
      go_ret
      exact ⟨by rw [H2.out]; rfl, rfl⟩
theorem u32_info : (Tryz.prog.info? 74).map (fun i => (i.zero, i.size, i.bytes)) = some (some (.int .u32 0), 1, 4) := by kernel_rfl
theorem u32_size : (Tryz.prog.info? 74).map (·.size) = some 1 := by kernel_rfl
def limV (x : Nat) : Value := .int .u32 (x : Int)
theorem oneCell_u32 (xs : List Nat) : ∀ v ∈ xs.map limV, v.oneCell' = true := by
 intro v hv
 obtain ⟨x, _, rfl⟩ := List.mem_map.1 hv
 rfl
theorem map_u32_get {xs : List Nat} {j : Nat} {v : Value} (h : (xs.map limV)[j]? = some v) : j < xs.length ∧ v = limV (lim xs j) := by
 rw [List.getElem?_map] at h
 by_cases hj : j < xs.length
 · rw [List.getElem?_eq_getElem hj] at h
   simp at h
   exact ⟨hj, by rw [← h]; simp [lim, List.getD_eq_getElem?_getD, List.getElem?_eq_getElem hj]⟩
 · rw [List.getElem?_eq_none (by omega)] at h; simp at h
def OwnN (w : World) (B : Nat) (A : Option Addr) (n c : Nat) (zs : List Nat) : Prop :=
 w.ownsRow B 74 1 (.slice A n c) n (zs.map limV) ∧ Small zs
theorem OwnN.len {w : World} {B : Nat} {A : Option Addr} {n c : Nat} {zs : List Nat} (h : OwnN w B A n c zs) : zs.length = n := by
 have := h.1.1; simpa using this
theorem OwnN.small {w : World} {B : Nat} {A : Option Addr} {n c : Nat} {zs : List Nat} (h : OwnN w B A n c zs) : Small zs := h.2
theorem OwnN.isN {w : World} {B : Nat} {A : Option Addr} {n c : Nat} {zs : List Nat} (h : OwnN w B A n c zs) : IsN w A n zs := by
 refine ⟨h.len, h.2, fun hn => ?_⟩
 rcases h.1.2 with ⟨_, h0⟩ | ⟨g, cap, cur, hv, hg, hh, _⟩
 · omega
 · injection hv with hA _ hc
   subst hA
   subst hc
   refine ⟨g, 0, rfl, ?_, fun j hj => ?_⟩
   · rcases Nat.lt_or_ge g w.heap.size with hlt | hge
     · exact hlt
     · rw [Array.getElem?_eq_none hge] at hh; cases hh
   · rw [Nat.zero_add, h.1.cellAt j (by omega), List.getElem?_map, List.getElem?_eq_getElem (by rw [h.len]; exact hj)]
     simp [limV, lim, List.getD_eq_getElem?_getD, List.getElem?_eq_getElem (show j < zs.length by rw [h.len]; exact hj)]
theorem OwnN.caps {w : World} {B : Nat} {A : Option Addr} {n c : Nat} {zs : List Nat} (h : OwnN w B A n c zs) : n ≤ c ∧ c ≤ maxLen := by
 rcases h.1.2 with ⟨hv, h0⟩ | ⟨g, cap, cur, hv, hg, hh, h1, h2, _⟩
 · injection hv with _ _ hc; subst hc; subst h0; exact ⟨Nat.le_refl _, Nat.zero_le _⟩
 · injection hv with _ _ hc; subst hc; exact ⟨h1, h2⟩
theorem OwnN.nil (w : World) (B : Nat) : OwnN w B none 0 0 [] := ⟨World.ownsRow_nil _ _ _ _, small_nil⟩
set_option maxHeartbeats 400000 in
theorem copied_any (A : Option Addr) (n c : Nat) (R : Int) (r : Nat) (xs : List Nat) (w : World) (hR : R = r) (hr : r ≤ 1) (hx : IsN w A n xs) (hm : n ≤ 1000000000) :
 Calls Tryz.prog 141 #[.slice A n c, .int .i64 R] w fun e w' => ∃ A' c', e = .returned (.slice A' n c') ∧ OwnN w' w.heap.size A' n c' xs ∧ Below w.heap.size w w' ∧ (0 < n → c' = n + r) := by
 have hl := hx.len
 by_cases hn : n = 0
 · subst hn
   obtain rfl : xs = [] := List.eq_nil_of_length_eq_zero hl
   go_enter Tryz.func141, Tryz.ntmps141
   go_wp2
   go_ret
   exact ⟨none, 0, rfl, OwnN.nil _ _, Below.refl _ _, fun h => absurd h (by omega)⟩
 · obtain ⟨i0, hi, hz0, hz1, hz2⟩ := info_parts u32_info
   have hmk : ∀ W : World, (Instr.makeSlice 23 (.int .i64 (n : Int)) (.int .i64 ((n : Int) + (r : Int)))).run Tryz.prog W = .ok (.slice (some ⟨W.heap.size, 0, none⟩) n (n + r)) (W.alloc (.cells (madeCells #[.int .u32 0] (n + r)) 74)) := by
    intro W
    have h := run_make (P := Tryz.prog) W 23 74 i0 (.int .u32 0) Tryz.underlying23 hi hz0 .i64 .i64 (n : Int) ((n : Int) + (r : Int)) (by omega) (by omega) (by rw [hz2]; omega) (by omega)
    rw [hz1] at h
    have e1 : ((n : Int) + (r : Int)).toNat = n + r := by omega
    have e2 : ((n : Int)).toNat = n := by omega
    rw [e1, e2, Nat.mul_one] at h
    exact h
   subst hR
   have Hpos : RowKit.Hid (0 < (xs.map limV).length → (some (⟨w.heap.size, 0, none⟩ : Addr)) = some ⟨w.heap.size, 0, none⟩ ∧ ∃ ad, A = some ad ∧ ∀ j v, (xs.map limV)[j]? = some v →
    (w.alloc (.cells (madeCells #[.int .u32 0] (n + r)) 74)).cell? (ad.add j) = some v) := by
    intro _
    obtain ⟨b, o, rfl, hb, hcell⟩ := hx.2.2 (by omega)
    refine ⟨rfl, _, rfl, fun j v hv => ?_⟩
    obtain ⟨hj, rfl⟩ := map_u32_get hv
    have e : (⟨b, o, none⟩ : Addr).add j = ⟨b, o + j, none⟩ := by unfold Addr.add; split <;> simp_all
    rw [e, World.cell?_alloc_lt _ _ _ hb]
    exact hcell j (by omega)
   have Hg : RowKit.Hid ((w.alloc (.cells (madeCells #[.int .u32 0] (n + r)) 74)).heap[w.heap.size]? = some (.cells (List.replicate (n + r) (Value.int .u32 0)).toArray 74 (0, 0))) := by
    show _ = _
    rw [heap_alloc_new, ← toList_madeCells_one]
   have Hn : RowKit.Hid ((xs.map limV).length = Nat.min n n) := by show _ = _; simp [hl]
   have Hfit : RowKit.Hid (0 + (xs.map limV).length ≤ (List.replicate (n + r) (Value.int .u32 0)).length) := by show _ ≤ _; simp; omega
   have Hb : RowKit.Hid (Below w.heap.size w (w.alloc (.cells (madeCells #[.int .u32 0] (n + r)) 74))) := (Below.refl _ _).alloc (Nat.le_refl _) _
   have hne : ((n : Int) == 0) = false := by simp; omega
   go_enter Tryz.func141, Tryz.ntmps141
   go_wp2_with (with_reducible refine wpList_copy_splice rfl (.tmp 16) (.tmp 17) 23 23 rfl 74 Tryz.underlying23 u32_size (some ⟨w.heap.size, 0, none⟩) A n (n + r) n c rfl rfl w.heap.size 0 (List.replicate (n + r) (Value.int .u32 0)) 74 Hg.out (xs.map limV) Hn.out Hpos.out Hfit.out (oneCell_u32 xs) w.heap.size w Hb.out (Nat.le_refl _) ?_)
   intro w1 hg1 hb1
   go_wp2
   go_ret
   refine ⟨_, _, rfl, ⟨⟨by simp [hl], .inr ⟨w.heap.size, n + r, _, rfl, Nat.le_refl _, hg1.out, by omega, by unfold maxLen; omega, ?_, ?_⟩⟩, hx.small⟩, hb1, fun _ => rfl⟩
   · simp [splice, hl]
   · simp [splice, hl]
end Go.Proofs.YtjikaojffgjndaaGreatDoor

/- What the statements' keep.Nat, keep.OwnNat, Long and package nat's Trim, Of and Cmp answer, as contracts over memory. Conditions: arguments read as limbs, of at most 10^9 of them. -/
namespace Go.Proofs.YtjikaojffgjndaaGreatDoor
open Go.RowKit Limb
set_option linter.unusedVariables false
theorem below_drewN {B : Nat} {a w : World} (h : Below B a w) (n : Nat) : Below B a (w.drewN n) := ⟨h.os, h.tape, h.output, h.size, h.block⟩
theorem lim_ext {xs ys : List Nat} (hl : xs.length = ys.length) (h : ∀ j, j < xs.length → lim xs j = lim ys j) : xs = ys := by
 refine List.ext_getElem hl fun j h1 h2 => ?_
 have := h j h1
 simpa [lim, List.getD_eq_getElem?_getD, List.getElem?_eq_getElem h1, List.getElem?_eq_getElem h2] using this
def same (xs ys : List Nat) : Bool := decide (xs = ys)
theorem same_false_of_len {xs ys : List Nat} (h : xs.length ≠ ys.length) : same xs ys = false := by
 unfold same; rw [decide_eq_false_iff_not]; rintro rfl; exact h rfl
theorem same_false_of_lim {xs ys : List Nat} {j : Nat} (h : lim xs j ≠ lim ys j) : same xs ys = false := by
 unfold same; rw [decide_eq_false_iff_not]; rintro rfl; exact h rfl
theorem same_true {xs ys : List Nat} (hl : xs.length = ys.length) (h : ∀ j, j < xs.length → lim xs j = lim ys j) : same xs ys = true := by
 unfold same; rw [decide_eq_true_eq]; exact lim_ext hl h
set_option maxHeartbeats 400000 in
theorem keepNat_any (A : Option Addr) (n c : Nat) (xs : List Nat) (A' : Option Addr) (n' c' : Nat) (ys : List Nat) (w : World) (hx : IsN w A n xs) (hy : IsN w A' n' ys) (hm : n ≤ 1000000000) (hm' : n' ≤ 1000000000) :
 Calls Tryz.prog 59 #[.slice A n c, .slice A' n' c'] w fun e w' => e = .returned (.bool (same xs ys)) ∧ Below w.heap.size w w' := by
 have hl := hx.len
 have hl' := hy.len
 by_cases hn : n = n'
 · subst hn
   have hne : ((n : Int) != (n : Int)) = false := by simp
   go_enter Tryz.func59, Tryz.ntmps59
   go_wp2
   go_loopw [5] (fun i wr => ∃ k : Nat, k ≤ n ∧ i = .int .i64 k ∧ (∀ j, j < k → lim xs j = lim ys j) ∧ Below w.heap.size w wr) (fun i _ => n - (intOf i).toNat)
   case atStart => exact ⟨0, Nat.zero_le _, rfl, fun j hj => absurd hj (by omega), Below.refl _ _⟩
   case round =>
    obtain ⟨k, hk, rfl, heq, hbel⟩ := hrel
    have Heq := Lib.hid heq
    clear heq
    by_cases hkn : k < n
    · obtain ⟨b, o, hA, hb, hcell⟩ := hx.2.2 (by omega)
      obtain ⟨b', o', hA', hb', hcell'⟩ := hy.2.2 (by omega)
      have h1 : wr.cell? ⟨b, o + k, none⟩ = some (.int .u32 ((lim xs k : Nat) : Int)) := (hbel.cell (p := ⟨b, o + k, none⟩) hb).trans (hcell k hkn)
      have h2 : wr.cell? ⟨b', o' + k, none⟩ = some (.int .u32 ((lim ys k : Nat) : Int)) := (hbel.cell (p := ⟨b', o' + k, none⟩) hb').trans (hcell' k hkn)
      subst hA
      subst hA'
      by_cases hq : lim xs k = lim ys k
      · have hq' : (((lim xs k : Nat) : Int) != ((lim ys k : Nat) : Int)) = false := by simp [hq]
        have Hq := Lib.hid hq
        clear hq
        go_wp2
        go_quiet (fail)
        go_wp2
        go_roundw
        case rel => exact ⟨k + 1, by omega, by go_num, fun j hj => by
         rcases Nat.lt_or_ge j k with h | h
         · exact Heq.out j h
         · have : j = k := by omega
           subst this; exact Hq.out, below_drewN hbel _⟩
        case measure => simp [intOf]; omega
      · have hq' : (((lim xs k : Nat) : Int) != ((lim ys k : Nat) : Int)) = true := by simp; omega
        have Hq := Lib.hid (same_false_of_lim hq)
        clear hq
        go_wp2
        go_quiet (fail)
        go_wp2
        go_ret
        exact ⟨by rw [Hq.out]; rfl, below_drewN hbel _⟩
    · have hkn : k = n := by omega
      subst hkn
      have Hs := Lib.hid (same_true (by omega) (fun j hj => Heq.out j (by omega)))
      go_wp2
      go_ret
      exact ⟨by rw [Hs.out]; rfl, hbel⟩
 · have hne : ((n : Int) != (n' : Int)) = true := by simp; omega
   have Hs := Lib.hid (same_false_of_len (xs := xs) (ys := ys) (by omega))
   go_enter Tryz.func59, Tryz.ntmps59
   go_wp2
   go_ret
   exact ⟨by rw [Hs.out]; rfl, Below.refl _ _⟩
theorem trim_any (A : Option Addr) (n c : Nat) (xs : List Nat) (w : World) (hx : IsN w A n xs) (hc : n ≤ c) (hm : n ≤ 1000000000) :
 Calls Tryz.prog 125 #[.slice A n c] w fun e w' => ∃ A' n' c', e = .returned (.slice A' n' c') ∧ OwnN w' w.heap.size A' n' c' (trim xs) ∧ Below w.heap.size w w' := by
 have hlt := trim_len_le xs
 have hl := hx.len
 have hx' := IsN.take hx (m := (trim xs).length) (by omega)
 rw [← trim_take xs] at hx'
 have Hl := Lib.hid hl
 clear hl
 go_enter Tryz.func125, Tryz.ntmps125
 go_wp2_with fail
 refine (cut_any A n c xs w hx hc (by unfold maxLen; omega)).mono ?_
 rintro e w1 ⟨rfl, rfl⟩
 go_wp2_with fail
 refine (copied_any A (trim xs).length c 0 0 (trim xs) w rfl (by omega) hx' (by have := Hl.out; omega)).mono ?_
 rintro e w1 ⟨A', c', rfl, hown, hbel, _⟩
 go_wp2
 go_ret
 exact ⟨_, _, _, rfl, hown, hbel⟩
theorem isN_lit (w : World) (zs : List Nat) (h : Small zs) : IsN (w.alloc (.cells (zs.map limV).toArray 74)) (some ⟨w.heap.size, 0, none⟩) zs.length zs := by
 refine ⟨rfl, h, fun hn => ⟨w.heap.size, 0, rfl, by simp, fun j hj => ?_⟩⟩
 rw [Nat.zero_add, World.cell?_alloc_at _ _ _ _ rfl]
 simp [lim, limV, List.getElem?_eq_getElem hj]
theorem OwnN.mono {w : World} {B B' : Nat} {A : Option Addr} {n c : Nat} {zs : List Nat} (h : OwnN w B A n c zs) (hB : B' ≤ B) : OwnN w B' A n c zs := by
 refine ⟨⟨h.1.1, ?_⟩, h.2⟩
 rcases h.1.2 with h2 | ⟨g, cap, cur, hv, hg, r⟩
 · exact .inl h2
 · exact .inr ⟨g, cap, cur, hv, Nat.le_trans hB hg, r⟩
theorem of_any (v : Int) (w : World) (h0 : 0 ≤ v) (h1 : v < 18446744073709551616) :
 Calls Tryz.prog 81 #[.int .u64 v] w fun e w' => ∃ A' n' c', e = .returned (.slice A' n' c') ∧ OwnN w' w.heap.size A' n' c' (limbs v.toNat) ∧ Below w.heap.size w w' := by
 go_enter Tryz.func81, Tryz.ntmps81
 go_wp2_with fail
 obtain ⟨v, rfl⟩ := Int.eq_ofNat_of_zero_le h0
 have e : (#[Value.int IntKind.u32 ((v : Int) % 4294967296), Value.int IntKind.u32 ((v : Int) / 4294967296)] : Array Value) = ([v % 4294967296, v / 4294967296].map limV).toArray := rfl
 have hs : Small [v % 4294967296, v / 4294967296] := by
  intro x hx
  simp at hx
  omega
 have hv : trim [v % 4294967296, v / 4294967296] = limbs ((v : Int)).toNat := by
  rw [trim_eq_limbs hs]
  congr 1
  simp [val]
  omega
 rw [e]
 refine (trim_any _ 2 2 [v % 4294967296, v / 4294967296] _ (isN_lit w [v % 4294967296, v / 4294967296] hs) (by omega) (by omega)).mono ?_
 rintro e w1 ⟨A', n', c', rfl, hown, hbel⟩
 rw [hv] at hown
 have hb : Below w.heap.size w w1 := ((Below.refl _ _).alloc (Nat.le_refl _) _).trans (hbel.mono (by simp))
 have hown' : OwnN w1 w.heap.size A' n' c' (limbs ((v : Int)).toNat) := hown.mono (by simp)
 clear hown hbel hv
 go_wp2
 go_ret
 exact ⟨_, _, _, rfl, hown', hb⟩
end Go.Proofs.YtjikaojffgjndaaGreatDoor

/- What package nat's Cmp answers, as a contract over memory: the order of the numbers that both lists tell. Conditions: both read as limbs, of at most 10^9 of them. -/
namespace Go.Proofs.YtjikaojffgjndaaGreatDoor
open Go.RowKit Limb
set_option linter.unusedVariables false
def cmpI (a b : Nat) : Int := if a < b then -1 else if a = b then 0 else 1
theorem cmpI_lt {a b : Nat} (h : a < b) : cmpI a b = -1 := by simp [cmpI, h]
theorem cmpI_gt {a b : Nat} (h : b < a) : cmpI a b = 1 := by unfold cmpI; rw [if_neg (by omega), if_neg (by omega)]
theorem cmpI_eq (a : Nat) : cmpI a a = 0 := by simp [cmpI]
theorem order_quiet (b : Bool) (w : World) : Calls Tryz.prog 143 #[.bool b] w fun e w' => e = .returned (.int .i64 (if b then -1 else 1)) ∧ w' = w :=
 (order_any b w).mono fun _ _ h => ⟨h.1, h.2.symm⟩
theorem order_true (w : World) : Calls Tryz.prog 143 #[.bool true] w fun e w' => e = .returned (.int .i64 (-1)) ∧ w' = w := order_quiet true w
theorem order_false (w : World) : Calls Tryz.prog 143 #[.bool false] w fun e w' => e = .returned (.int .i64 1) ∧ w' = w := order_quiet false w
set_option maxHeartbeats 800000 in
theorem cmp_any (A : Option Addr) (n c : Nat) (xs : List Nat) (A' : Option Addr) (n' c' : Nat) (ys : List Nat) (w : World) (hx : IsN w A n xs) (hy : IsN w A' n' ys) (hm : n ≤ 1000000000) (hm' : n' ≤ 1000000000) (hc : n ≤ c) (hc' : n' ≤ c') :
 Calls Tryz.prog 105 #[.slice A n c, .slice A' n' c'] w fun e w' => e = .returned (.int .i64 (cmpI (val xs) (val ys))) ∧ Below w.heap.size w w' := by
 have hlt := trim_len_le xs
 have hlt' := trim_len_le ys
 have hl := hx.len
 have hl' := hy.len
 have hx' := IsN.take hx (m := (trim xs).length) (by omega)
 rw [← trim_take xs] at hx'
 have hy' := IsN.take hy (m := (trim ys).length) (by omega)
 rw [← trim_take ys] at hy'
 have ex := trim_eq_limbs hx.small
 have ey := trim_eq_limbs hy.small
 have hb : (trim xs).length ≤ 1000000000 := by omega
 have hb' : (trim ys).length ≤ 1000000000 := by omega
 have Hl := Lib.hid ex
 have Hl' := Lib.hid ey
 clear hl hl' ex ey hlt hlt'
 go_enter Tryz.func105, Tryz.ntmps105
 go_wp2_with fail
 refine (cut_any A n c xs w hx hc (by unfold maxLen; omega)).mono ?_
 rintro e w1 ⟨rfl, rfl⟩
 go_wp2_with fail
 refine (cut_any A' n' c' ys w hy hc' (by unfold maxLen; omega)).mono ?_
 rintro e w1 ⟨rfl, rfl⟩
 generalize trim xs = xs' at *
 generalize trim ys = ys' at *
 clear hx hy
 by_cases hlen : xs'.length = ys'.length
 · have hne : (((xs'.length : Nat) : Int) != ((ys'.length : Nat) : Int)) = false := by simp [hlen]
   have Hlen := Lib.hid hlen
   clear hlen
   go_wp2
   go_loopw [5] (fun i wr => ∃ k : Nat, k ≤ xs'.length ∧ i = .int .i64 ((k : Int) - 1) ∧ (∀ j, k ≤ j → j < xs'.length → lim xs' j = lim ys' j) ∧ Below w.heap.size w wr) (fun i _ => (intOf i + 1).toNat)
   case atStart => exact ⟨xs'.length, Nat.le_refl _, rfl, fun j h1 h2 => absurd h1 (by omega), Below.refl _ _⟩
   case round =>
    obtain ⟨k, hk, rfl, heq, hbel⟩ := hrel
    have Heq := Lib.hid heq
    clear heq
    by_cases hk0 : k = 0
    · subst hk0
      have e : RowKit.Hid (cmpI (val xs) (val ys) = 0) := by
       have h1 : xs' = ys' := lim_ext Hlen.out (fun j hj => Heq.out j (by omega) hj)
       have h2 : val xs = val ys := limbs_inj (by rw [← Hl.out, ← Hl'.out, h1])
       rw [h2]; exact cmpI_eq _
      go_wp2
      go_ret
      exact ⟨by rw [e.out]; rfl, hbel⟩
    · obtain ⟨b1, o, hA, hb1, hcell⟩ := hx'.2.2 (by omega)
      obtain ⟨b2, o', hA', hb2, hcell'⟩ := hy'.2.2 (by have := Hlen.out; omega)
      have h1 : wr.cell? ⟨b1, o + (k - 1), none⟩ = some (.int .u32 ((lim xs' (k - 1) : Nat) : Int)) := (hbel.cell (p := ⟨b1, o + (k - 1), none⟩) hb1).trans (hcell (k - 1) (by omega))
      have h2 : wr.cell? ⟨b2, o' + (k - 1), none⟩ = some (.int .u32 ((lim ys' (k - 1) : Nat) : Int)) := (hbel.cell (p := ⟨b2, o' + (k - 1), none⟩) hb2).trans (hcell' (k - 1) (by have := Hlen.out; omega))
      have hk2 : k ≤ ys'.length := by have := Hlen.out; omega
      subst hA
      subst hA'
      by_cases hq : lim xs' (k - 1) = lim ys' (k - 1)
      · have hq' : (((lim xs' (k - 1) : Nat) : Int) != ((lim ys' (k - 1) : Nat) : Int)) = false := by simp [hq]
        have Hq := Lib.hid hq
        clear hq
        go_wp2
        go_quiet (fail)
        go_wp2
        go_roundw
        case rel => exact ⟨k - 1, by omega, by go_num, fun j h1 h2 => by
         rcases Nat.lt_or_ge j k with h | h
         · have : j = k - 1 := by omega
           subst this; exact Hq.out
         · exact Heq.out j h h2, below_drewN hbel _⟩
        case measure => simp [intOf]; omega
      · have hq' : (((lim xs' (k - 1) : Nat) : Int) != ((lim ys' (k - 1) : Nat) : Int)) = true := by simp; omega
        by_cases ho : lim xs' (k - 1) < lim ys' (k - 1)
        · have e : RowKit.Hid (cmpI (val xs) (val ys) = -1) := by
           have h1 := val_lt_of_lim (xs := xs') (ys := ys') hx'.small Hlen.out (k := k - 1) (by omega) ho (fun j h1 h2 => Heq.out j (by omega) h2)
           rw [Hl.out, Hl'.out, val_limbs, val_limbs] at h1
           exact cmpI_lt h1
          go_wp2
          go_quiet (fail)
          have h1' : (wr.drewN nq).cell? ⟨b1, o + (k - 1), none⟩ = some (.int .u32 ((lim xs' (k - 1) : Nat) : Int)) := h1
          have h2' : (wr.drewN nq).cell? ⟨b2, o' + (k - 1), none⟩ = some (.int .u32 ((lim ys' (k - 1) : Nat) : Int)) := h2
          have hbel' := below_drewN hbel nq
          clear h1 h2 hbel
          generalize wr.drewN nq = wq at *
          go_wp2
          go_quiet ((go_at_call 143; exact Calls.quiet_of_same (order_true _)))
          go_wp2
          go_ret
          exact ⟨by rw [e.out]; rfl, below_drewN hbel' _⟩
        · have ho' : decide (((lim xs' (k - 1) : Nat) : Int) < ((lim ys' (k - 1) : Nat) : Int)) = false := by simp; omega
          have e : RowKit.Hid (cmpI (val xs) (val ys) = 1) := by
           have h1 := val_lt_of_lim (xs := ys') (ys := xs') hy'.small Hlen.out.symm (k := k - 1) (by omega) (show lim ys' (k - 1) < lim xs' (k - 1) by omega) (fun j h1 h2 => (Heq.out j (by omega) (by have := Hlen.out; omega)).symm)
           rw [Hl.out, Hl'.out, val_limbs, val_limbs] at h1
           exact cmpI_gt h1
          go_wp2
          go_quiet (fail)
          have h1' : (wr.drewN nq).cell? ⟨b1, o + (k - 1), none⟩ = some (.int .u32 ((lim xs' (k - 1) : Nat) : Int)) := h1
          have h2' : (wr.drewN nq).cell? ⟨b2, o' + (k - 1), none⟩ = some (.int .u32 ((lim ys' (k - 1) : Nat) : Int)) := h2
          have hbel' := below_drewN hbel nq
          clear h1 h2 hbel
          generalize wr.drewN nq = wq at *
          go_wp2
          go_quiet ((go_at_call 143; exact Calls.quiet_of_same (order_false _)))
          go_wp2
          go_ret
          exact ⟨by rw [e.out]; rfl, below_drewN hbel' _⟩
 · have hne : (((xs'.length : Nat) : Int) != ((ys'.length : Nat) : Int)) = true := by simp; omega
   by_cases ho : xs'.length < ys'.length
   · have e : RowKit.Hid (cmpI (val xs) (val ys) = -1) := by
      refine cmpI_lt (Nat.lt_of_not_le fun h => ?_)
      have := length_limbs_mono h
      rw [← Hl.out, ← Hl'.out] at this
      omega
     go_wp2_with (go_at_call 143; refine (order_true _).mono ?_; rintro e w1 ⟨rfl, rfl⟩)
     go_ret
     exact ⟨by rw [e.out]; rfl, Below.refl _ _⟩
   · have e : RowKit.Hid (cmpI (val xs) (val ys) = 1) := by
      refine cmpI_gt (Nat.lt_of_not_le fun h => ?_)
      have := length_limbs_mono h
      rw [← Hl.out, ← Hl'.out] at this
      omega
     have ho' : decide (((xs'.length : Nat) : Int) < ((ys'.length : Nat) : Int)) = false := by simp; omega
     go_wp2_with (go_at_call 143; refine (order_false _).mono ?_; rintro e w1 ⟨rfl, rfl⟩)
     go_ret
     exact ⟨by rw [e.out]; rfl, Below.refl _ _⟩
end Go.Proofs.YtjikaojffgjndaaGreatDoor

/- What package nat's Add answers, as a contract over memory: the sum of the numbers that both lists tell, in its shortest limbs, in new memory. Conditions: both read as limbs, of at most 10^9 of them. -/
namespace Go.Proofs.YtjikaojffgjndaaGreatDoor
open Go.RowKit Limb
set_option linter.unusedVariables false
theorem add32_nat (x y c : Nat) (w : World) (hx : x < 4294967296) (hy : y < 4294967296) (hc : c ≤ 1) :
 Calls Tryz.prog 142 #[.int .u32 (x : Int), .int .u32 (y : Int), .int .u32 (c : Int)] w fun e w' => e = .returned (.tuple #[.int .u32 ((sumLo x y c : Nat) : Int), .int .u32 ((sumHi x y c : Nat) : Int)]) ∧ w = w' := by
 refine (add32_any (x : Int) (y : Int) (c : Int) w (by omega) (by omega) (by omega)).mono ?_
 rintro e w' ⟨rfl, rfl⟩
 refine ⟨?_, rfl⟩
 have e1 : ((x : Int) + (y : Int) + (c : Int)) % 4294967296 = ((sumLo x y c : Nat) : Int) := by unfold sumLo; omega
 have e2 : ((x : Int) + (y : Int) + (c : Int)) / 4294967296 = ((sumHi x y c : Nat) : Int) := by unfold sumHi; omega
 rw [e1, e2]
theorem add32_zero (x y c : Nat) (w : World) (hx : x < 4294967296) (hy : y = 0) (hc : c ≤ 1) :
 Calls Tryz.prog 142 #[.int .u32 (x : Int), .int .u32 0, .int .u32 (c : Int)] w fun e w' => e = .returned (.tuple #[.int .u32 ((sumLo x y c : Nat) : Int), .int .u32 ((sumHi x y c : Nat) : Int)]) ∧ w = w' := by
 subst hy
 exact add32_nat x 0 c w hx (by omega) hc
theorem OwnN.addr {w : World} {B : Nat} {A : Option Addr} {n c : Nat} {zs : List Nat} (h : OwnN w B A n c zs) (hn : 0 < n) : ∃ g, A = some ⟨g, 0, none⟩ ∧ B ≤ g ∧ g < w.heap.size := by
 rcases h.1.2 with ⟨_, h0⟩ | ⟨g, cap, cur, hv, hg, hh, _⟩
 · omega
 · injection hv with hA
   refine ⟨g, hA, hg, ?_⟩
   rcases Nat.lt_or_ge g w.heap.size with hlt | hge
   · exact hlt
   · rw [Array.getElem?_eq_none hge] at hh; cases hh
theorem OwnN.cell {w : World} {B g n c : Nat} {zs : List Nat} (h : OwnN w B (some ⟨g, 0, none⟩) n c zs) {k : Nat} (hk : k < n) : w.cell? ⟨g, k, none⟩ = some (.int .u32 ((lim zs k : Nat) : Int)) := by
 have hl := h.len
 rw [h.1.cellAt k (by omega), List.getElem?_map, List.getElem?_eq_getElem (by omega)]
 simp [limV, lim, List.getD_eq_getElem?_getD, List.getElem?_eq_getElem (show k < zs.length by omega)]
theorem OwnN.set {w : World} {B g n c : Nat} {zs : List Nat} (h : OwnN w B (some ⟨g, 0, none⟩) n c zs) (k : Nat) {v : Nat} (hv : v < 4294967296) :
 OwnN (w.setCell ⟨g, k, none⟩ (.int .u32 ((v : Nat) : Int))) B (some ⟨g, 0, none⟩) n c (zs.set k v) := by
 have := (h.1.stored k (limV v)).1
 rw [← List.map_set] at this
 exact ⟨this, small_set h.2 k v hv⟩
theorem OwnN.below {w w' : World} {B C : Nat} {A : Option Addr} {n c : Nat} {zs : List Nat} (h : OwnN w B A n c zs) (hb : Below C w w') (hC : w.heap.size ≤ C) : OwnN w' B A n c zs := by
 refine ⟨⟨h.1.1, ?_⟩, h.2⟩
 rcases h.1.2 with h2 | ⟨g, cap, cur, hv, hg, hh, r⟩
 · exact .inl h2
 · refine .inr ⟨g, cap, cur, hv, hg, ?_, r⟩
   have hlt : g < w.heap.size := by
    rcases Nat.lt_or_ge g w.heap.size with hlt | hge
    · exact hlt
    · rw [Array.getElem?_eq_none hge] at hh; cases hh
   rw [hb.block g (by omega)]
   exact hh
theorem shape_own {w : World} {B : Nat} {v : Value} {n : Nat} {zs : List Nat} (h : w.ownsRow B 74 1 v n (zs.map limV)) (hs : Small zs) : ∃ A c, v = .slice A n c ∧ OwnN w B A n c zs := by
 rcases h.2 with ⟨rfl, rfl⟩ | ⟨g, cap, cur, rfl, hg, r⟩
 · exact ⟨none, 0, rfl, h, hs⟩
 · exact ⟨_, cap, rfl, h, hs⟩
def SumIs (a b t : Nat) : Prop := a + b = t
set_option maxHeartbeats 1000000 in
set_option maxRecDepth 4000 in
theorem add_any (A : Option Addr) (n c : Nat) (xs : List Nat) (A' : Option Addr) (n' c' : Nat) (ys : List Nat) (w : World) (hx : IsN w A n xs) (hy : IsN w A' n' ys) (hm : n ≤ 1000000000) (hm' : n' ≤ 1000000000) (hc : n ≤ c) (hc' : n' ≤ c') :
 Calls Tryz.prog 96 #[.slice A n c, .slice A' n' c'] w fun e w' => ∃ A2 n2 c2, e = .returned (.slice A2 n2 c2) ∧ OwnN w' w.heap.size A2 n2 c2 (limbs (val xs + val ys)) ∧ Below w.heap.size w w' := by
 obtain ⟨i0, hi, hz0, hz1, hz2⟩ := info_parts u32_info
 have hlt := trim_len_le xs
 have hlt' := trim_len_le ys
 have hl := hx.len
 have hl' := hy.len
 have hx' := IsN.take hx (m := (trim xs).length) (by omega)
 rw [← trim_take xs] at hx'
 have hy' := IsN.take hy (m := (trim ys).length) (by omega)
 rw [← trim_take ys] at hy'
 have ex := trim_eq_limbs hx.small
 have ey := trim_eq_limbs hy.small
 have hb : (trim xs).length ≤ 1000000000 := by omega
 have hb' : (trim ys).length ≤ 1000000000 := by omega
 have Hl := Lib.hid ex
 have Hl' := Lib.hid ey
 clear hl hl' ex ey hlt hlt'
 go_enter Tryz.func96, Tryz.ntmps96
 go_wp2_with fail
 refine (cut_any A n c xs w hx hc (by unfold maxLen; omega)).mono ?_
 rintro e w1 ⟨rfl, rfl⟩
 go_wp2_with fail
 refine (cut_any A' n' c' ys w hy hc' (by unfold maxLen; omega)).mono ?_
 rintro e w1 ⟨rfl, rfl⟩
 generalize trim xs = xs' at *
 generalize trim ys = ys' at *
 clear hx hy
 by_cases hlen : xs'.length < ys'.length
 case' pos =>
  have hle : xs'.length ≤ ys'.length := by omega
  have hlen' : decide (((xs'.length : Nat) : Int) < ((ys'.length : Nat) : Int)) = true := by simpa using hlen
  have HT : SumIs (val ys) (val xs) (val xs + val ys) := Nat.add_comm _ _
  obtain ⟨long, e⟩ : ∃ l, l = ys' := ⟨_, rfl⟩
  subst e
  obtain ⟨short, e⟩ : ∃ l, l = xs' := ⟨_, rfl⟩
  subst e
  have hL := hy'
  have hS := hx'
  have hbL := hb'
  have hbS := hb
  have HL := Hl'
  have HS := Hl
  clear hy' hx' hb hb' Hl Hl' hc hc' hm hm'
 case' neg =>
  have hle : ys'.length ≤ xs'.length := by omega
  have hlen' : decide (((xs'.length : Nat) : Int) < ((ys'.length : Nat) : Int)) = false := by simpa using hlen
  clear hlen
  have HT : SumIs (val xs) (val ys) (val xs + val ys) := rfl
  obtain ⟨long, e⟩ : ∃ l, l = xs' := ⟨_, rfl⟩
  subst e
  obtain ⟨short, e⟩ : ∃ l, l = ys' := ⟨_, rfl⟩
  subst e
  have hL := hx'
  have hS := hy'
  have hbL := hb
  have hbS := hb'
  have HL := Hl
  have HS := Hl'
  clear hy' hx' hb hb' Hl Hl' hc hc' hm hm'
 all_goals
  go_wp2_with fail
  refine (copied_any _ _ _ 1 1 long w rfl (Nat.le_refl _) hL hbL).mono ?_
  rintro e w1 ⟨A2, c2, rfl, hown, hbel, _⟩
  have hsmL := hL.small
  have hsmS := hS.small
  go_wp2
  go_loopw [27, 8] (fun i cy wr => ∃ (k cr : Nat) (zs : List Nat), k ≤ short.length ∧ i = .int .i64 (k : Int) ∧ cy = .int .u32 (cr : Int) ∧ AddInv long short zs k cr ∧ OwnN wr w.heap.size A2 long.length c2 zs ∧ Below w.heap.size w wr) (fun i _ _ => short.length - (intOf i).toNat)
  case atStart => exact ⟨0, 0, long, Nat.zero_le _, rfl, rfl, AddInv.start _ _, hown, hbel⟩
  case round =>
   obtain ⟨k, cr, zs, hk, rfl, rfl, hinv, how, hbe⟩ := hrel
   have Hinv := Lib.hid hinv
   clear hinv
   by_cases hks : k < short.length
   · obtain ⟨g, rfl, hBg, hgl⟩ := how.addr (by omega)
     obtain ⟨bs, os, hA, hbs, hcs⟩ := hS.2.2 (by omega)
     subst hA
     have h1 : wr.cell? ⟨bs, os + k, none⟩ = some (.int .u32 ((lim short k : Nat) : Int)) := (hbe.cell (p := ⟨bs, os + k, none⟩) hbs).trans (hcs k hks)
     have h2 := how.cell (k := k) (by omega)
     have h3 := how.1.frozenAt k
     go_wp2_with (go_at_call 142; refine (add32_nat (lim zs k) (lim short k) cr _ (lim_lt how.small k) (lim_lt hsmS k) Hinv.out.2.2.2).mono ?_; rintro e w2 ⟨rfl, rfl⟩)
     go_roundw
     case rel => exact ⟨k + 1, _, _, by omega, by go_num, rfl, Hinv.out.step hsmL hsmS (by omega), how.set k (sumLo_lt _ _ _), hbe.setCell (by exact hBg) _⟩
     case measure => simp [intOf]; omega
   · have hks : k = short.length := by omega
     subst hks
     go_wp2
     go_loopw [11, 8] (fun i cy wr => ∃ (k cr : Nat) (zs : List Nat), short.length ≤ k ∧ k ≤ long.length ∧ i = .int .i64 (k : Int) ∧ cy = .int .u32 (cr : Int) ∧ AddInv long short zs k cr ∧ OwnN wr w.heap.size A2 long.length c2 zs ∧ Below w.heap.size w wr) (fun i _ _ => long.length - (intOf i).toNat)
     case atStart => exact ⟨short.length, cr, zs, Nat.le_refl _, hle, rfl, rfl, Hinv.out, how, hbe⟩
     case round =>
      clear how hbe Hinv
      obtain ⟨k, cr, zs, hk0, hk, rfl, rfl, hinv, how, hbe⟩ := hrel
      have Hinv := Lib.hid hinv
      clear hinv
      by_cases hgo : k < long.length ∧ cr ≠ 0
      · obtain ⟨hkl, hcr⟩ := hgo
        have hcr' : (((cr : Nat) : Int) != 0) = true := by simp; omega
        obtain ⟨g, rfl, hBg, hgl⟩ := how.addr (by omega)
        have h2 := how.cell (k := k) (by omega)
        have h3 := how.1.frozenAt k
        go_wp2_with (go_at_call 142; refine (add32_zero (lim zs k) (lim short k) cr _ (lim_lt how.small k) (lim_of_ge hk0) Hinv.out.2.2.2).mono ?_; rintro e w2 ⟨rfl, rfl⟩)
        go_roundw
        case rel => exact ⟨k + 1, _, _, by omega, by omega, by go_num, rfl, Hinv.out.step hsmL hsmS (by omega), how.set k (sumLo_lt _ _ _), hbe.setCell (by exact hBg) _⟩
        case measure => simp [intOf]; omega
      · have hdone := Lib.hid (Hinv.out.done hk0 hk (by omega))
        have hsz := how.small
        have hlen := Lib.hid Hinv.out.1
        have hc1 : cr ≤ 1 := Hinv.out.2.2.2
        by_cases hcr : cr = 0
        · subst hcr
          have Hf : RowKit.Hid (zs = limbs (val xs + val ys)) := by
           have h := add_fits HL.out HS.out hsz hlen.out (by have := hdone.out; omega)
           unfold SumIs at HT; rw [HT] at h; exact h
          clear hgo
          by_cases hkl : k < long.length
          all_goals
           go_wp2
           go_ret
           exact ⟨_, _, _, rfl, by rw [← Hf.out]; exact how, hbe⟩
        · obtain rfl : cr = 1 := by omega
          have hkl : ¬ k < long.length := by omega
          clear hgo hcr
          have Hf : RowKit.Hid (zs ++ [1] = limbs (val xs + val ys)) := by
           have h := add_carries HL.out HS.out hsz hlen.out (by have := hdone.out; omega)
           unfold SumIs at HT; rw [HT] at h; exact h
          go_wp2_with (at_builtin; refine wpList_append_own _ rfl _ _ 23 rfl w.heap.size 74 i0 (.int .u32 0) 1 4 Tryz.underlying23 hi hz0 hz1 hz2 rfl (by decide) _ _ _ rfl (how.1.alloc _) ⟨wr.heap.size, 0, none⟩ 1 1 [.int .u32 1] rfl rfl ?c1 ?c2 ?c3 ?c4 ?c5 ?_)
          case c1 =>
           intro j u hj
           match j, hj with
           | 0, hj => simp at hj; subst hj; simp [Addr.add]
          case c2 => intro u hu; simp at hu; subst hu; rfl
          case c3 => unfold maxLen; omega
          case c4 => omega
          case c5 => have := hbe.size; simp; omega
          intro v' w3 hown' hgrow _
          have hown2 : w3.ownsRow w.heap.size 74 1 v' (long.length + 1) ((zs ++ [1]).map limV) := by rw [List.map_append]; exact hown'
          rw [Hf.out] at hown2
          obtain ⟨A3, c3, hv, how3⟩ := shape_own hown2 (small_limbs _)
          subst hv
          have hbe3 : Below w.heap.size w w3 := (hbe.alloc hbe.size _).grown hgrow (by have := hbe.size; simp; omega) (fun g hg => (how.1.lt g hg).1)
          clear hown' hgrow hown2 how
          go_wp2
          go_ret
          exact ⟨_, _, _, rfl, how3, hbe3⟩
end Go.Proofs.YtjikaojffgjndaaGreatDoor

/- What package nat's Sub answers, as a contract over memory: the difference, where the first number is not below the second, in its shortest limbs, in new memory; else none. Conditions: both read as limbs, of at most 10^9 of them. -/
namespace Go.Proofs.YtjikaojffgjndaaGreatDoor
open Go.RowKit Limb
set_option linter.unusedVariables false
theorem sub32_nat (x y c : Nat) (w : World) (hx : x < 4294967296) (hy : y < 4294967296) (hc : c ≤ 1) :
 Calls Tryz.prog 146 #[.int .u32 (x : Int), .int .u32 (y : Int), .int .u32 (c : Int)] w fun e w' => e = .returned (.tuple #[.int .u32 ((diffLo x y c : Nat) : Int), .int .u32 ((diffHi x y c : Nat) : Int)]) ∧ w = w' := by
 refine (sub32_any (x : Int) (y : Int) (c : Int) w (by omega) (by omega) (by omega)).mono ?_
 rintro e w' ⟨rfl, rfl⟩
 refine ⟨?_, rfl⟩
 have e1 : ((x : Int) - (y : Int) - (c : Int)) % 4294967296 = ((diffLo x y c : Nat) : Int) := by unfold diffLo; omega
 have e2 : bor (x : Int) (y : Int) (c : Int) = ((diffHi x y c : Nat) : Int) := by
  unfold bor diffHi
  by_cases h : x < y + c
  · rw [if_pos h, if_pos (by omega)]; rfl
  · rw [if_neg h, if_neg (by omega)]; rfl
 rw [e1, e2]
theorem sub32_zero (x y c : Nat) (w : World) (hx : x < 4294967296) (hy : y = 0) (hc : c ≤ 1) :
 Calls Tryz.prog 146 #[.int .u32 (x : Int), .int .u32 0, .int .u32 (c : Int)] w fun e w' => e = .returned (.tuple #[.int .u32 ((diffLo x y c : Nat) : Int), .int .u32 ((diffHi x y c : Nat) : Int)]) ∧ w = w' := by
 subst hy
 exact sub32_nat x 0 c w hx (by omega) hc
theorem cmp_is (A : Option Addr) (n c : Nat) (xs : List Nat) (A' : Option Addr) (n' c' : Nat) (ys : List Nat) (w : World) (v : Int) (hv : cmpI (val xs) (val ys) = v) (hx : IsN w A n xs) (hy : IsN w A' n' ys) (hm : n ≤ 1000000000) (hm' : n' ≤ 1000000000) (hc : n ≤ c) (hc' : n' ≤ c') :
 Calls Tryz.prog 105 #[.slice A n c, .slice A' n' c'] w fun e w' => e = .returned (.int .i64 v) ∧ Below w.heap.size w w' := by
 subst hv
 exact cmp_any A n c xs A' n' c' ys w hx hy hm hm' hc hc'
theorem OwnN.take {w : World} {B : Nat} {A : Option Addr} {n c m : Nat} {zs : List Nat} (h : OwnN w B A n c zs) (hm : m ≤ n) : OwnN w B A m c (zs.take m) := by
 have hl := h.len
 refine ⟨⟨by simp; omega, ?_⟩, small_take h.2 _⟩
 rcases h.1.2 with ⟨hv, h0⟩ | ⟨g, cap, cur, hv, hg, hh, h1, h2, h3, h4⟩
 · injection hv with hA hn hc
   subst hA hc
   left
   exact ⟨by congr 1; omega, by omega⟩
 · injection hv with hA hn hc
   subst hA hc
   refine .inr ⟨g, c, cur, rfl, hg, hh, by omega, h2, h3, ?_⟩
   rw [List.map_take, ← h4, List.take_take]
   congr 1
   omega
def subOk (a b : Nat) : Bool := decide (b ≤ a)
theorem val_trim {xs : List Nat} (h : Small xs) : val (trim xs) = val xs := by rw [trim_eq_limbs h, val_limbs]
set_option maxHeartbeats 1000000 in
theorem sub_any (A : Option Addr) (n c : Nat) (xs : List Nat) (A' : Option Addr) (n' c' : Nat) (ys : List Nat) (w : World) (hx : IsN w A n xs) (hy : IsN w A' n' ys) (hm : n ≤ 1000000000) (hm' : n' ≤ 1000000000) (hc : n ≤ c) (hc' : n' ≤ c') :
 Calls Tryz.prog 108 #[.slice A n c, .slice A' n' c'] w fun e w' => ∃ A2 n2 c2, e = .returned (.tuple #[.slice A2 n2 c2, .bool (subOk (val xs) (val ys))]) ∧ OwnN w' w.heap.size A2 n2 c2 (limbs (val xs - val ys)) ∧ Below w.heap.size w w' := by
 have hlt := trim_len_le xs
 have hlt' := trim_len_le ys
 have hl := hx.len
 have hl' := hy.len
 have hx' := IsN.take hx (m := (trim xs).length) (by omega)
 rw [← trim_take xs] at hx'
 have hy' := IsN.take hy (m := (trim ys).length) (by omega)
 rw [← trim_take ys] at hy'
 have ex := trim_eq_limbs hx.small
 have ey := trim_eq_limbs hy.small
 have vx := val_trim hx.small
 have vy := val_trim hy.small
 have hb : (trim xs).length ≤ 1000000000 := by omega
 have hb' : (trim ys).length ≤ 1000000000 := by omega
 have hcx : (trim xs).length ≤ c := by omega
 have hcy : (trim ys).length ≤ c' := by omega
 have Hl := Lib.hid ex
 have Hl' := Lib.hid ey
 have Vx := Lib.hid vx
 have Vy := Lib.hid vy
 clear hl hl' ex ey hlt hlt' vx vy
 rcases Nat.lt_trichotomy (val xs) (val ys) with hab | hab | hab
 · have Hok : RowKit.Hid (subOk (val xs) (val ys) = false) := by show _ = _; simp [subOk]; omega
   have Hz : RowKit.Hid (limbs (val xs - val ys) = []) := by show _ = _; rw [Nat.sub_eq_zero_of_le (by omega), limbs_zero]
   have hcv := Lib.hid (show cmpI (val (trim xs)) (val (trim ys)) = -1 by rw [Vx.out, Vy.out]; exact cmpI_lt hab)
   go_enter Tryz.func108, Tryz.ntmps108
   go_wp2_with fail
   refine (cut_any A n c xs w hx hc (by unfold maxLen; omega)).mono ?_
   rintro e w1 ⟨rfl, rfl⟩
   go_wp2_with fail
   refine (cut_any A' n' c' ys w hy hc' (by unfold maxLen; omega)).mono ?_
   rintro e w1 ⟨rfl, rfl⟩
   go_wp2_with fail
   refine (cmp_is A (trim xs).length c (trim xs) A' (trim ys).length c' (trim ys) w (-1) hcv.out hx' hy' hb hb' hcx hcy).mono ?_
   rintro e w1 ⟨rfl, hbel⟩
   go_wp2
   go_ret2
   exact ⟨none, 0, 0, by rw [Hok.out]; rfl, by rw [Hz.out]; exact OwnN.nil _ _, hbel⟩
 · have Hok : RowKit.Hid (subOk (val xs) (val ys) = true) := by show _ = _; simp [subOk]; omega
   have Hz : RowKit.Hid (limbs (val xs - val ys) = []) := by show _ = _; rw [Nat.sub_eq_zero_of_le (by omega), limbs_zero]
   have hcv := Lib.hid (show cmpI (val (trim xs)) (val (trim ys)) = 0 by rw [Vx.out, Vy.out, hab]; exact cmpI_eq _)
   have Hab := Lib.hid hab
   clear hab
   go_enter Tryz.func108, Tryz.ntmps108
   go_wp2_with fail
   refine (cut_any A n c xs w hx hc (by unfold maxLen; omega)).mono ?_
   rintro e w1 ⟨rfl, rfl⟩
   go_wp2_with fail
   refine (cut_any A' n' c' ys w hy hc' (by unfold maxLen; omega)).mono ?_
   rintro e w1 ⟨rfl, rfl⟩
   go_wp2_with fail
   refine (cmp_is A (trim xs).length c (trim xs) A' (trim ys).length c' (trim ys) w 0 hcv.out hx' hy' hb hb' hcx hcy).mono ?_
   rintro e w1 ⟨rfl, hbel⟩
   go_wp2
   go_ret2
   exact ⟨none, 0, 0, by rw [Hok.out]; rfl, by rw [Hz.out]; exact OwnN.nil _ _, hbel⟩
 · have Hok : RowKit.Hid (subOk (val xs) (val ys) = true) := by show _ = _; simp [subOk]; omega
   have hcv := Lib.hid (show cmpI (val (trim xs)) (val (trim ys)) = 1 by rw [Vx.out, Vy.out]; exact cmpI_gt hab)
   have Hab := Lib.hid hab
   clear hab
   go_enter Tryz.func108, Tryz.ntmps108
   go_wp2_with fail
   refine (cut_any A n c xs w hx hc (by unfold maxLen; omega)).mono ?_
   rintro e w1 ⟨rfl, rfl⟩
   go_wp2_with fail
   refine (cut_any A' n' c' ys w hy hc' (by unfold maxLen; omega)).mono ?_
   rintro e w1 ⟨rfl, rfl⟩
   go_wp2_with fail
   refine (cmp_is A (trim xs).length c (trim xs) A' (trim ys).length c' (trim ys) w 1 hcv.out hx' hy' hb hb' hcx hcy).mono ?_
   rintro e w1 ⟨rfl, hbel⟩
   have hx1 := IsN.below hx' hbel
   have hy1 := IsN.below hy' hbel
   clear hx hy hx' hy'
   generalize trim xs = long at *
   generalize trim ys = short at *
   have hle : short.length ≤ long.length := by rw [Hl.out, Hl'.out]; exact length_limbs_mono (by have := Hab.out; omega)
   have hvle := Lib.hid (show val short ≤ val long by rw [Vx.out, Vy.out]; have := Hab.out; omega)
   have hsmL := hx1.small
   have hsmS := hy1.small
   go_wp2_with fail
   refine (copied_any A long.length c 0 0 long w1 rfl (by omega) hx1 hb).mono ?_
   rintro e w2 ⟨A2, c2, rfl, hown, hbel2, _⟩
   have hbs := hbel.size
   go_wp2
   go_loopw [27, 8] (fun i cy wr => ∃ (k cr : Nat) (zs : List Nat), k ≤ short.length ∧ i = .int .i64 (k : Int) ∧ cy = .int .u32 (cr : Int) ∧ SubInv long short zs k cr ∧ OwnN wr w1.heap.size A2 long.length c2 zs ∧ Below w1.heap.size w1 wr) (fun i _ _ => short.length - (intOf i).toNat)
   case atStart => exact ⟨0, 0, long, Nat.zero_le _, rfl, rfl, SubInv.start _ _, hown, hbel2⟩
   case round =>
    obtain ⟨k, cr, zs, hk, rfl, rfl, hinv, how, hbe⟩ := hrel
    have Hinv := Lib.hid hinv
    clear hinv
    by_cases hks : k < short.length
    · obtain ⟨g, rfl, hBg, hgl⟩ := how.addr (by omega)
      obtain ⟨bs, os, hA, hbs, hcs⟩ := hy1.2.2 (by omega)
      subst hA
      have h1 : wr.cell? ⟨bs, os + k, none⟩ = some (.int .u32 ((lim short k : Nat) : Int)) := (hbe.cell (p := ⟨bs, os + k, none⟩) hbs).trans (hcs k hks)
      have h2 := how.cell (k := k) (by omega)
      have h3 := how.1.frozenAt k
      go_wp2_with (go_at_call 146; refine (sub32_nat (lim zs k) (lim short k) cr _ (lim_lt how.small k) (lim_lt hsmS k) Hinv.out.2.2.2).mono ?_; rintro e w2 ⟨rfl, rfl⟩)
      go_roundw
      case rel => exact ⟨k + 1, _, _, by omega, by go_num, rfl, Hinv.out.step hsmL hsmS (by omega), how.set k (diffLo_lt _ _ _), hbe.setCell (by exact hBg) _⟩
      case measure => simp [intOf]; omega
    · have hks : k = short.length := by omega
      subst hks
      go_wp2
      go_loopw [11, 8] (fun i cy wr => ∃ (k cr : Nat) (zs : List Nat), short.length ≤ k ∧ k ≤ long.length ∧ i = .int .i64 (k : Int) ∧ cy = .int .u32 (cr : Int) ∧ SubInv long short zs k cr ∧ OwnN wr w1.heap.size A2 long.length c2 zs ∧ Below w1.heap.size w1 wr) (fun i _ _ => long.length - (intOf i).toNat)
      case atStart => exact ⟨short.length, cr, zs, Nat.le_refl _, hle, rfl, rfl, Hinv.out, how, hbe⟩
      case round =>
       clear how hbe Hinv
       obtain ⟨k, cr, zs, hk0, hk, rfl, rfl, hinv, how, hbe⟩ := hrel
       have Hinv := Lib.hid hinv
       clear hinv
       have hcr1 : cr ≤ 1 := Hinv.out.2.2.2
       by_cases hcr : cr = 0
       · subst hcr
         have hv := Lib.hid (Hinv.out.done hk0 hk)
         have hzl := how.len
         have ht := trim_len_le zs
         have how2 := how.take (m := (trim zs).length) (by omega)
         rw [← trim_take zs] at how2
         have Hf : RowKit.Hid (trim zs = limbs (val xs - val ys)) := by
          show _ = _
          rw [trim_eq_limbs how.small, hv.out, Vx.out, Vy.out]
         have hcap := how.caps
         have hn := how.isN
         go_wp2_with fail
         refine (cut_any A2 long.length c2 zs _ hn hcap.1 (by unfold maxLen; omega)).mono ?_
         rintro e w3 ⟨rfl, rfl⟩
         go_wp2
         go_ret2
         refine ⟨A2, (trim zs).length, c2, by rw [Hok.out]; rfl, ?_, hbel.trans (hbe.mono hbs)⟩
         rw [← Hf.out]
         exact how2.mono hbs
       · have hkl := Hinv.out.room how.small hk0 hk hvle.out hcr
         have hcr' : (((cr : Nat) : Int) != 0) = true := by simp; omega
         obtain ⟨g, rfl, hBg, hgl⟩ := how.addr (by omega)
         have h2 := how.cell (k := k) (by omega)
         have h3 := how.1.frozenAt k
         go_wp2_with (go_at_call 146; refine (sub32_zero (lim zs k) (lim short k) cr _ (lim_lt how.small k) (lim_of_ge hk0) Hinv.out.2.2.2).mono ?_; rintro e w2 ⟨rfl, rfl⟩)
         go_roundw
         case rel => exact ⟨k + 1, _, _, by omega, by omega, by go_num, rfl, Hinv.out.step hsmL hsmS (by omega), how.set k (diffLo_lt _ _ _), hbe.setCell (by exact hBg) _⟩
         case measure => simp [intOf]; omega
end Go.Proofs.YtjikaojffgjndaaGreatDoor

/- What package nat's Bits and Bit answer, as contracts over memory: how many bits the number has that a list tells, and each bit. Conditions: the list reads as limbs, of at most 10^9 of them. -/
namespace Go.Proofs.YtjikaojffgjndaaGreatDoor
open Go.RowKit Limb
set_option linter.unusedVariables false
theorem bitLen_blen (x : Nat) (h : x < 2 ^ 64) : Lib.bitLen x = blen x := by
 induction x using Nat.strongRecOn with
 | ind x ih =>
  by_cases h0 : x = 0
  · subst h0; rw [blen_zero]; rfl
  · rw [Lib.bitLen_half x h0 h, blen_pos h0, ih (x / 2) (by omega) (by omega)]
theorem len8tab_size : ((Lib.len8tab.size : Nat) : Int) = 256 := by
 have : Lib.len8tab.size = 256 := by decide +kernel
 omega
theorem len8_byte (y : Int) (h : y.toNat < Lib.len8tab.size) (h0 : 0 ≤ y) (h1 : y ≤ 255) : (Lib.len8tab[y.toNat]'h).toNat = Lib.bitLen y.toNat := by
 have e := Lib.len8_of y h0 h1
 unfold Lib.len8 at e
 rw [getElem?_pos Lib.len8tab y.toNat h] at e
 have : ((((Lib.len8tab[y.toNat]'h)).toNat : Nat) : Int) = ((Lib.bitLen y.toNat : Nat) : Int) := e
 omega
theorem wrap_len (k a b : Nat) (hk : k ≤ 56) (ha : a ≤ 8) (hb : b = k + a) : wrap64 ((k : Int) + wrap64 (a : Int)) = (b : Int) := by
 unfold wrap64
 omega
theorem wrap_len0 (a b : Nat) (ha : a ≤ 8) (hb : b = a) : wrap64 (wrap64 (a : Int)) = (b : Int) := by
 unfold wrap64
 omega
theorem size_bound (y : Int) (h1 : y ≤ 255) : y.toNat < Lib.len8tab.size := by
 have := len8tab_size
 omega
set_option maxHeartbeats 4000000 in
set_option maxRecDepth 100000 in
theorem len32_any (x : Int) (w : World) (h0 : 0 ≤ x) (h1 : x ≤ 4294967295) :
 Calls Tryz.prog 130 #[.int .u32 x] w fun e w' => e = .returned (.int .i64 ((blen x.toNat : Nat) : Int)) ∧ w = w' := by
 rw [← bitLen_blen x.toNat (by omega)]
 have hsz := len8tab_size
 by_cases c1 : x < 65536
 · by_cases c2 : x < 256
   · have e := len8_byte x (size_bound _ (by omega)) (by omega) (by omega)
     have l := Lib.bitLen_le8' x (by omega) (by omega)
     have H := Lib.hid (wrap_len0 _ (Lib.bitLen x.toNat) (e ▸ l) e.symm)
     clear e
     go_enter Tryz.func130, Tryz.ntmps130
     go_wp2
     go_ret
     exact ⟨ret_int H.out, rfl⟩
   · have e := len8_byte (x / 256) (size_bound _ (by omega)) (by omega) (by omega)
     have l := Lib.bitLen_le8' (x / 256) (by omega) (by omega)
     have s := Lib.bitLen_shift8 x.toNat (by omega) (by omega)
     rw [show x.toNat / 256 = (x / 256).toNat by omega] at s
     have H := Lib.hid (wrap_len 8 _ (Lib.bitLen x.toNat) (by omega) (e ▸ l) (by rw [e]; exact s))
     clear e s
     go_enter Tryz.func130, Tryz.ntmps130
     go_wp2
     go_ret
     exact ⟨ret_int H.out, rfl⟩
 · by_cases c2 : x < 16777216
   · have e := len8_byte (x / 65536) (size_bound _ (by omega)) (by omega) (by omega)
     have l := Lib.bitLen_le8' (x / 65536) (by omega) (by omega)
     have s := Lib.bitLen_shift16 x.toNat (by omega) (by omega)
     rw [show x.toNat / 65536 = (x / 65536).toNat by omega] at s
     have H := Lib.hid (wrap_len 16 _ (Lib.bitLen x.toNat) (by omega) (e ▸ l) (by rw [e]; exact s))
     clear e s
     go_enter Tryz.func130, Tryz.ntmps130
     go_wp2
     go_ret
     exact ⟨ret_int H.out, rfl⟩
   · have e := len8_byte (x / 65536 / 256) (size_bound _ (by omega)) (by omega) (by omega)
     have l := Lib.bitLen_le8' (x / 65536 / 256) (by omega) (by omega)
     have s := Lib.bitLen_shift24 x.toNat (by omega) (by omega)
     rw [show x.toNat / 16777216 = (x / 65536 / 256).toNat by omega] at s
     have H := Lib.hid (wrap_len 24 _ (Lib.bitLen x.toNat) (by omega) (e ▸ l) (by rw [e]; exact s))
     clear e s
     go_enter Tryz.func130, Tryz.ntmps130
     go_wp2
     go_ret
     exact ⟨ret_int H.out, rfl⟩
set_option maxHeartbeats 400000 in
theorem bits_any (A : Option Addr) (n c : Nat) (xs : List Nat) (w : World) (hx : IsN w A n xs) (hc : n ≤ c) (hm : n ≤ 1000000000) :
 Calls Tryz.prog 83 #[.slice A n c] w fun e w' => e = .returned (.int .i64 ((blen (val xs) : Nat) : Int)) ∧ w = w' := by
 have hlt := trim_len_le xs
 have hl := hx.len
 have hx' := IsN.take hx (m := (trim xs).length) (by omega)
 rw [← trim_take xs] at hx'
 have Vx := Lib.hid (val_trim hx.small)
 have Ex := Lib.hid (trim_eq_limbs hx.small)
 have hb : (trim xs).length ≤ 1000000000 := by omega
 by_cases h0 : (trim xs).length = 0
 · have H : RowKit.Hid (blen (val xs) = 0) := by
    have e := List.eq_nil_of_length_eq_zero h0
    rw [Ex.out, limbs_eq_nil] at e
    show _ = _
    rw [e, blen_zero]
   rw [h0] at hlt
   have H0 := Lib.hid h0
   clear hl h0
   go_enter Tryz.func83, Tryz.ntmps83
   go_wp2_with fail
   refine (cut_any A n c xs w hx hc (by unfold maxLen; omega)).mono ?_
   rintro e w1 ⟨rfl, rfl⟩
   rw [H0.out]
   go_wp2
   go_ret
   exact ⟨by rw [H.out]; rfl, rfl⟩
 · obtain ⟨b, o, hA, hb1, hcell⟩ := hx'.2.2 (by omega)
   subst hA
   have h1 := hcell ((trim xs).length - 1) (by omega)
   have hlt32 := lim_lt hx'.small ((trim xs).length - 1)
   have hbl := (blen_spec (n := lim (trim xs) ((trim xs).length - 1)))
   have hne : lim (trim xs) ((trim xs).length - 1) ≠ 0 := by
    intro hz
    have h2 := trim_take_last (xs := trim xs) (k := (trim xs).length - 1) (by omega) hz
    rw [Nat.sub_add_cancel (by omega), List.take_of_length_le (Nat.le_refl _)] at h2
    have h3 := trim_len_le ((trim xs).take ((trim xs).length - 1))
    rw [← h2, trim_eq_limbs hx'.small, Vx.out, ← Ex.out, List.length_take] at h3
    omega
   have H : RowKit.Hid (((trim xs).length - 1) * 32 + blen (lim (trim xs) ((trim xs).length - 1)) = blen (val xs)) := by
    show _ = _
    rw [← Vx.out, blen_limbs (k := (trim xs).length - 1) (by omega) hne hx'.small]
    omega
   have hbl32 : blen (lim (trim xs) ((trim xs).length - 1)) ≤ 32 := by
    rw [← bitLen_blen _ (by omega)]
    exact Lib.bitLen_le _ 32 (by omega) (by omega)
   have hbz : ((((trim xs).length : Nat) : Int) == 0) = false := by simp; exact fun h => h0 (by rw [h]; rfl)
   clear hl hne
   go_enter Tryz.func83, Tryz.ntmps83
   go_wp2_with fail
   refine (cut_any (some ⟨b, o, none⟩) n c xs w hx hc (by unfold maxLen; omega)).mono ?_
   rintro e w1 ⟨rfl, rfl⟩
   generalize (trim xs).length = m at *
   generalize lim (trim xs) (m - 1) = t at *
   go_wp2_with fail
   refine (len32_any (t : Int) w (by omega) (by omega)).mono ?_
   rintro e w1 ⟨rfl, rfl⟩
   rw [Int.toNat_natCast]
   go_wp2
   go_ret
   refine ⟨ret_int ?_, rfl⟩
   rw [← H.out]
   omega
theorem bit_of (t k : Nat) (ht : t < 4294967296) : (bits BinOp.and IntKind.u32 ((t : Int) / 2 ^ k) 1 == 1) = t.testBit k := by
 have e : (t : Int) / 2 ^ k = ((t / 2 ^ k : Nat) : Int) := by simp
 have h1 : t / 2 ^ k < 4294967296 := Nat.lt_of_le_of_lt (Nat.div_le_self _ _) ht
 have h2 := u32_and_nat (t / 2 ^ k) 1 h1 (by decide)
 rw [e, show (1 : Int) = ((1 : Nat) : Int) from rfl, h2, Nat.and_one_is_mod, Nat.testBit_eq_decide_div_mod_eq]
 rw [Bool.eq_iff_iff]
 simp
 omega
set_option maxHeartbeats 400000 in
theorem bit_any (A : Option Addr) (n c : Nat) (xs : List Nat) (i : Int) (w : World) (hx : IsN w A n xs) (hm : n ≤ 1000000000) (h0 : 0 ≤ i) (h1 : i ≤ 9223372036854775807) :
 Calls Tryz.prog 107 #[.slice A n c, .int .i64 i] w fun e w' => e = .returned (.bool ((val xs).testBit i.toNat)) ∧ w = w' := by
 have H := Lib.hid (testBit_lim xs hx.small i.toNat)
 obtain ⟨i, rfl⟩ := Int.eq_ofNat_of_zero_le h0
 rw [Int.toNat_natCast] at H ⊢
 have hl := hx.len
 by_cases hi : i / 32 < n
 · obtain ⟨b, o, hA, hb1, hcell⟩ := hx.2.2 (by omega)
   subst hA
   have h2 := hcell (i / 32) hi
   have hlt32 := lim_lt hx.small (i / 32)
   have hi' : ((i : Int) / 32) < (n : Int) := by omega
   go_enter Tryz.func107, Tryz.ntmps107
   go_wp2
   go_ret
   refine ⟨ret_bool ?_, rfl⟩
   rw [H.out]
   exact bit_of _ _ hlt32
 · have hz : RowKit.Hid ((val xs).testBit i = false) := by
    show _ = _
    rw [H.out, lim_of_ge (by omega)]; simp
   have hi' : (n : Int) ≤ ((i : Int) / 32) := by omega
   go_enter Tryz.func107, Tryz.ntmps107
   go_wp2
   go_ret
   exact ⟨by rw [hz.out]; rfl, rfl⟩
end Go.Proofs.YtjikaojffgjndaaGreatDoor

/- The contracts of package nat and of the statements' helpers in one form: a slice reads as limbs that tell a number, within its capacity and a known length; answers are in the shortest limbs. Conditions: at most 10^9 limbs. -/
namespace Go.Proofs.YtjikaojffgjndaaGreatDoor
open Go.RowKit Limb
set_option linter.unusedVariables false
structure NN (w : World) (A : Option Addr) (n c : Nat) (xs : List Nat) (a L : Nat) : Prop where
 isN : IsN w A n xs
 val : Limb.val xs = a
 cap : n ≤ c
 le : n ≤ L
theorem NN.below {w w' : World} {A : Option Addr} {n c : Nat} {xs : List Nat} {a L : Nat} (h : NN w A n c xs a L) (hb : Below w.heap.size w w') : NN w' A n c xs a L := ⟨h.isN.below hb, h.val, h.cap, h.le⟩
theorem lt_pow {w : World} {A : Option Addr} {n c : Nat} {xs : List Nat} {a L : Nat} (h : NN w A n c xs a L) : a < 4294967296 ^ L := by
 have := val_lt h.isN.small
 rw [h.val, h.isN.len] at this
 exact Nat.lt_of_lt_of_le this (Nat.pow_le_pow_right (by decide) h.le)
theorem blen_NN {w : World} {A : Option Addr} {n c : Nat} {xs : List Nat} {a L : Nat} (h : NN w A n c xs a L) : blen a ≤ 32 * L := by
 have := lt_pow h
 rw [pow32] at this
 exact blen_le this
theorem NN.own {w : World} {B : Nat} {A : Option Addr} {n c a L : Nat} (h : OwnN w B A n c (limbs a)) (hl : a < 4294967296 ^ L) : NN w A n c (limbs a) a L :=
 ⟨h.isN, val_limbs a, h.caps.1, by have := length_limbs_le hl; rw [h.len] at this; exact this⟩
theorem NN.relax {w : World} {A : Option Addr} {n c a L L' : Nat} (h : NN w A n c (limbs a) a L) (hl : a < 4294967296 ^ L') : NN w A n c (limbs a) a L' :=
 ⟨h.isN, h.val, h.cap, by have := length_limbs_le hl; rw [h.isN.len] at this; exact this⟩
theorem limbs_of_NN {w : World} {A : Option Addr} {n c : Nat} {xs : List Nat} {a L : Nat} (h : NN w A n c xs a L) : trim xs = limbs a := by rw [trim_eq_limbs h.isN.small, h.val]
section
variable {w : World} {A A' : Option Addr} {n c n' c' : Nat} {xs ys : List Nat} {a b L L' : Nat}
theorem add_c (hx : NN w A n c xs a L) (hy : NN w A' n' c' ys b L') (K : Nat) (h1 : L < K) (h2 : L' < K) (h3 : K ≤ 1000000000) :
 Calls Tryz.prog 96 #[.slice A n c, .slice A' n' c'] w fun e w' => ∃ A2 n2 c2, e = .returned (.slice A2 n2 c2) ∧ NN w' A2 n2 c2 (limbs (a + b)) (a + b) K ∧ Below w.heap.size w w' := by
 have hlx := lt_pow hx
 have hly := lt_pow hy
 refine (add_any A n c xs A' n' c' ys w hx.isN hy.isN (by have := hx.le; omega) (by have := hy.le; omega) hx.cap hy.cap).mono ?_
 rintro e w' ⟨A2, n2, c2, rfl, how, hb⟩
 rw [hx.val, hy.val] at how
 refine ⟨A2, n2, c2, rfl, NN.own how ?_, hb⟩
 have e1 : 4294967296 ^ L ≤ 4294967296 ^ (K - 1) := Nat.pow_le_pow_right (by decide) (by omega)
 have e2 : 4294967296 ^ L' ≤ 4294967296 ^ (K - 1) := Nat.pow_le_pow_right (by decide) (by omega)
 have e3 : 4294967296 ^ K = 4294967296 ^ (K - 1) * 4294967296 := by rw [← Nat.pow_succ]; congr 1; omega
 omega
theorem sub_c (hx : NN w A n c xs a L) (hy : NN w A' n' c' ys b L') (h1 : L ≤ 1000000000) (h2 : L' ≤ 1000000000) :
 Calls Tryz.prog 108 #[.slice A n c, .slice A' n' c'] w fun e w' => ∃ A2 n2 c2, e = .returned (.tuple #[.slice A2 n2 c2, .bool (subOk a b)]) ∧ NN w' A2 n2 c2 (limbs (a - b)) (a - b) L ∧ Below w.heap.size w w' := by
 have hlx := lt_pow hx
 refine (sub_any A n c xs A' n' c' ys w hx.isN hy.isN (by have := hx.le; omega) (by have := hy.le; omega) hx.cap hy.cap).mono ?_
 rintro e w' ⟨A2, n2, c2, rfl, how, hb⟩
 rw [hx.val, hy.val] at how ⊢
 exact ⟨A2, n2, c2, rfl, NN.own how (by omega), hb⟩
theorem sub_yes (hx : NN w A n c xs a L) (hy : NN w A' n' c' ys b L') (h1 : L ≤ 1000000000) (h2 : L' ≤ 1000000000) (h : b ≤ a) :
 Calls Tryz.prog 108 #[.slice A n c, .slice A' n' c'] w fun e w' => ∃ A2 n2 c2, e = .returned (.tuple #[.slice A2 n2 c2, .bool true]) ∧ NN w' A2 n2 c2 (limbs (a - b)) (a - b) L ∧ Below w.heap.size w w' := by
 have := sub_c hx hy h1 h2
 rwa [show subOk a b = true by simp [subOk, h]] at this
theorem sub_no (hx : NN w A n c xs a L) (hy : NN w A' n' c' ys b L') (h1 : L ≤ 1000000000) (h2 : L' ≤ 1000000000) (h : a < b) :
 Calls Tryz.prog 108 #[.slice A n c, .slice A' n' c'] w fun e w' => ∃ A2 n2 c2, e = .returned (.tuple #[.slice A2 n2 c2, .bool false]) ∧ NN w' A2 n2 c2 [] 0 L ∧ Below w.heap.size w w' := by
 have h0 := sub_c hx hy h1 h2
 rw [show subOk a b = false by simp [subOk]; omega, show a - b = 0 by omega, limbs_zero] at h0
 exact h0
theorem cmp_c (hx : NN w A n c xs a L) (hy : NN w A' n' c' ys b L') (h1 : L ≤ 1000000000) (h2 : L' ≤ 1000000000) (v : Int) (hv : cmpI a b = v) :
 Calls Tryz.prog 105 #[.slice A n c, .slice A' n' c'] w fun e w' => e = .returned (.int .i64 v) ∧ Below w.heap.size w w' :=
 cmp_is A n c xs A' n' c' ys w v (by rw [hx.val, hy.val, hv]) hx.isN hy.isN (by have := hx.le; omega) (by have := hy.le; omega) hx.cap hy.cap
theorem bits_c (hx : NN w A n c xs a L) (h1 : L ≤ 1000000000) (v : Int) (hv : ((blen a : Nat) : Int) = v) :
 Calls Tryz.prog 83 #[.slice A n c] w fun e w' => e = .returned (.int .i64 v) ∧ w = w' := by
 have := bits_any A n c xs w hx.isN hx.cap (by have := hx.le; omega)
 rwa [hx.val, hv] at this
theorem bit_c (hx : NN w A n c xs a L) (h1 : L ≤ 1000000000) (i : Int) (h2 : 0 ≤ i) (h3 : i ≤ 9223372036854775807) (v : Bool) (hv : a.testBit i.toNat = v) :
 Calls Tryz.prog 107 #[.slice A n c, .int .i64 i] w fun e w' => e = .returned (.bool v) ∧ w = w' := by
 have := bit_any A n c xs i w hx.isN (by have := hx.le; omega) h2 h3
 rwa [hx.val, hv] at this
theorem trim_c (hx : NN w A n c xs a L) (h1 : L ≤ 1000000000) :
 Calls Tryz.prog 125 #[.slice A n c] w fun e w' => ∃ A2 n2 c2, e = .returned (.slice A2 n2 c2) ∧ NN w' A2 n2 c2 (limbs a) a L ∧ Below w.heap.size w w' := by
 refine (trim_any A n c xs w hx.isN hx.cap (by have := hx.le; omega)).mono ?_
 rintro e w' ⟨A2, n2, c2, rfl, how, hb⟩
 rw [limbs_of_NN hx] at how
 exact ⟨A2, n2, c2, rfl, NN.own how (lt_pow hx), hb⟩
theorem keep_c (hx : NN w A n c xs a L) (hy : NN w A' n' c' ys b L') (h1 : L ≤ 1000000000) (h2 : L' ≤ 1000000000) (v : Bool) (hv : same xs ys = v) :
 Calls Tryz.prog 59 #[.slice A n c, .slice A' n' c'] w fun e w' => e = .returned (.bool v) ∧ Below w.heap.size w w' := by
 have := keepNat_any A n c xs A' n' c' ys w hx.isN hy.isN (by have := hx.le; omega) (by have := hy.le; omega)
 rwa [hv] at this
theorem same_self (xs : List Nat) : same xs xs = true := by simp [same]
theorem same_limbs_ne (h : a ≠ b) : same (limbs a) (limbs b) = false := by
 unfold same; rw [decide_eq_false_iff_not]; exact fun e => h (limbs_inj e)
theorem cmpI_same (h : a = b) : cmpI a b = 0 := by subst h; exact cmpI_eq _
end
theorem of_c (v : Nat) (V : Int) (hV : V = v) (h : v < 18446744073709551616) (w : World) :
 Calls Tryz.prog 81 #[.int .u64 V] w fun e w' => ∃ A2 n2 c2, e = .returned (.slice A2 n2 c2) ∧ NN w' A2 n2 c2 (limbs v) v 2 ∧ Below w.heap.size w w' := by
 subst hV
 refine (of_any (v : Int) w (by omega) (by omega)).mono ?_
 rintro e w' ⟨A2, n2, c2, rfl, how, hb⟩
 rw [Int.toNat_natCast] at how
 exact ⟨A2, n2, c2, rfl, NN.own how (by omega), hb⟩
theorem lit_c (w : World) (zs : List Nat) (h : Small zs) (n : Nat) (hn : zs.length = n) : NN (w.alloc (.cells (zs.map limV).toArray 74)) (some ⟨w.heap.size, 0, none⟩) n n zs (Limb.val zs) n := by
 subst hn
 exact ⟨isN_lit w zs h, rfl, Nat.le_refl _, Nat.le_refl _⟩
theorem below_new (w : World) (o : Obj) : Below w.heap.size w (w.alloc o) := (Below.refl _ _).alloc (Nat.le_refl _) o
theorem below_two {w w1 w2 : World} (h : Below w.heap.size w w1) (k : Below w1.heap.size w1 w2) : Below w.heap.size w w2 := h.trans (k.mono h.size)
section
variable {P : Program}
theorem run_append_nothing (w : World) (base : Nat) (t ty e : TypeId) (i : TypeInfo) (size : Nat) (ht : P.underlying t = some (.slice e)) (hi : P.info? e = some i)
 (v : Value) (n : Nat) (xs : List Value) (hown : w.ownsRow base e size v n xs) (c : Nat) : (Builtin.append_ #[t, t] ty #[v, .slice none 0 c]).run P w = .ok v w := by
 rcases hown.2 with ⟨rfl, rfl⟩ | ⟨g, cap, cur, rfl, _, _, hnc, _⟩
 · simp [Builtin.append_, run_underlying ht, sizeOf, typeInfo, hi, Builtin.lenOf, Builtin.firstCells]
 · simp [Builtin.append_, run_underlying ht, sizeOf, typeInfo, hi, Builtin.lenOf, Builtin.firstCells, hnc, storeCells]
theorem wpList_append_read {w : World} {ops : Array Oper} {rest : List Oper} {o : Oper} {a : Act} {Q : Exit → Act → World → Prop} (hgd : o.guard = none) (s x : Operand) (t : TypeId)
 (ho : o.op = .call { callee := .builtin .append, args := #[s, x], argTypes := #[t, t] })
 (base : Nat) (e : TypeId) (i : TypeInfo) (z : Value) (bytes : Nat) (ht : P.underlying t = some (.slice e)) (hi : P.info? e = some i) (hz : i.zero = some z)
 (hsize : i.size = 1) (hby : i.bytes = bytes) (hzs : z.cells.size = 1)
 (v : Value) (n : Nat) (xs : List Value) (hs : a.eval s = v) (hown : w.ownsRow base e 1 v n xs)
 (A : Option Addr) (m c : Nat) (news : List Value) (hx : a.eval x = .slice A m c) (hl : news.length = m)
 (hnews : 0 < m → ∃ ad, A = some ad ∧ ∀ j u, news[j]? = some u → w.cell? (ad.add j) = some u) (h1 : ∀ u ∈ news, u.oneCell' = true)
 (h63 : n + m ≤ maxLen) (hbytes : (n + m) * bytes ≤ 140737488355328) (hbase : base ≤ w.heap.size)
 (h : ∀ v' w', w'.ownsRow base e 1 v' (n + m) (xs ++ news) → w.grownBy w' v.ownBlock → wpList P ops Q rest (a.put o.dst v') w') : wpList P ops Q (o :: rest) a w := by
 rcases A with _ | ad
 · have hm : m = 0 := by
    rcases Nat.eq_zero_or_pos m with h0 | h0
    · exact h0
    · obtain ⟨ad, hA, _⟩ := hnews h0; cases hA
   subst hm
   have hnw : news = [] := List.eq_nil_of_length_eq_zero hl
   subst hnw
   refine wpList_plain hgd fun K hK => ?_
   have hrun := run_append_nothing (P := P) w base t o.type e i 1 ht hi v n xs hown c
   unfold Oper.wp execOp
   simp only [ho, resolve, invoke, builtin, Sem.run_bind, Sem.run_pure, Result.andThen_ok, List.map_toArray, List.map_cons, List.map_nil, hs, hx, hrun]
   exact hK _ _ (h v w (by simpa using hown) (World.grownBy.refl w _))
 · refine wpList_append_own w hgd s x t ho base e i z 1 bytes ht hi hz hsize hby hzs (by decide) v n xs hs hown ad m c news hx (by omega) ?_ h1 h63 hbytes hbase (fun v' w' a b _ => h v' w' a b)
   intro j u hu
   have hj : j < news.length := by
    rcases Nat.lt_or_ge j news.length with h0 | h0
    · exact h0
    · rw [List.getElem?_eq_none h0] at hu; cases hu
   obtain ⟨ad', hA, hc⟩ := hnews (by omega)
   injection hA with hA
   subst hA
   exact hc j u hu
end
theorem NN.news {w : World} {A : Option Addr} {n c : Nat} {xs : List Nat} {a L : Nat} (h : NN w A n c xs a L) : 0 < n → ∃ ad, A = some ad ∧ ∀ j u, (xs.map limV)[j]? = some u → w.cell? (ad.add j) = some u := by
 intro hn
 obtain ⟨b, o, rfl, hb, hcell⟩ := h.isN.2.2 hn
 refine ⟨_, rfl, fun j u hu => ?_⟩
 obtain ⟨hj, rfl⟩ := map_u32_get hu
 have e : (⟨b, o, none⟩ : Addr).add j = ⟨b, o + j, none⟩ := by unfold Addr.add; split <;> simp_all
 rw [e]
 exact hcell j (by rw [← h.isN.len]; exact hj)
theorem wpList_append_nat {w : World} {ops : Array Oper} {rest : List Oper} {o : Oper} {a : Act} {Q : Exit → Act → World → Prop} (hgd : o.guard = none) (s x : Operand)
 (ho : o.op = .call { callee := .builtin .append, args := #[s, x], argTypes := #[23, 23] })
 (base : Nat) (v : Value) (n : Nat) (xs : List Nat) (hs : a.eval s = v) (hown : Hid (w.ownsRow base 74 1 v n (xs.map limV)))
 (A : Option Addr) (m c : Nat) (ys : List Nat) (b L : Nat) (hx : a.eval x = .slice A m c) (hy : Hid (NN w A m c ys b L)) (hb : Hid (n ≤ 1000000000 ∧ L ≤ 1000000000 ∧ base ≤ w.heap.size ∧ Small xs))
 (h : ∀ A2 c2 w', Hid (OwnN w' base A2 (n + m) c2 (xs ++ ys)) → Hid (w.grownBy w' v.ownBlock) → wpList Tryz.prog ops Q rest (a.put o.dst (.slice A2 (n + m) c2)) w') : wpList Tryz.prog ops Q (o :: rest) a w := by
 obtain ⟨i0, hi, hz0, hz1, hz2⟩ := info_parts u32_info
 obtain ⟨h1, h2, h3, h4⟩ := hb.out
 have hm := hy.out.le
 refine wpList_append_read hgd s x 23 ho base 74 i0 (.int .u32 0) 4 Tryz.underlying23 hi hz0 hz1 hz2 rfl v n (xs.map limV) hs hown.out A m c (ys.map limV) hx (by simp [hy.out.isN.len]) hy.out.news (oneCell_u32 ys) (by unfold maxLen; omega) (by omega) h3 ?_
 intro v' w' hown' hg
 rw [← List.map_append] at hown'
 obtain ⟨A2, c2, rfl, how⟩ := shape_own hown' (small_append.2 ⟨h4, hy.out.isN.small⟩)
 exact h A2 c2 w' how hg
theorem own_lit (w : World) (zs : List Nat) (n : Nat) (hn : zs.length = n) (h : n ≤ 1000000000) : (w.alloc (.cells (zs.map limV).toArray 74)).ownsRow w.heap.size 74 1 (.slice (some ⟨w.heap.size, 0, none⟩) n n) n (zs.map limV) := by
 have := World.ownsRow_lit (e := 74) (size := 1) w (zs.map limV).toArray n (Nat.le_refl _) (by unfold maxLen; omega) (by simp [hn])
 simpa using this
theorem below_lit {w w' : World} {o : Obj} {g : Nat} {n c : Nat} (hg : (w.alloc o).grownBy w' (Value.ownBlock (.slice (some ⟨g, 0, none⟩) n c))) (hb : w.heap.size ≤ g) : Below w.heap.size w w' :=
 (below_new w o).grown hg (by simp) (fun k hk => by
   simp [Value.ownBlock] at hk
   omega)
theorem own_any (A : Option Addr) (n c : Nat) (xs : List Nat) (a L : Nat) (w : World) (hx : NN w A n c xs a L) (h1 : L ≤ 1000000000) :
 Calls Tryz.prog 42 #[.slice A n c] w fun e w' => ∃ A2 n2 c2, e = .returned (.slice A2 n2 c2) ∧ NN w' A2 n2 c2 xs a L ∧ Below w.heap.size w w' := by
 have hle := hx.le
 have Hx := Lib.hid (hx.below (below_new w (.cells #[] 74)))
 have Hn := Lib.hid hx
 clear hx
 have Hown : RowKit.Hid ((w.alloc (.cells #[] 74)).ownsRow w.heap.size 74 1 (.slice (some ⟨w.heap.size, 0, none⟩) 0 0) 0 (([] : List Nat).map limV)) := own_lit w [] 0 rfl (by omega)
 have Hb : RowKit.Hid (0 ≤ 1000000000 ∧ L ≤ 1000000000 ∧ w.heap.size ≤ (w.alloc (.cells #[] 74)).heap.size ∧ Small []) := ⟨by omega, h1, by simp, small_nil⟩
 go_enter Tryz.func42, Tryz.ntmps42
 go_wp2_with (at_builtin; refine wpList_append_nat rfl _ _ rfl w.heap.size _ 0 [] rfl Hown A n c xs a L rfl Hx Hb ?_)
 intro A2 c2 w' how hgrow
 have hb2 := below_lit hgrow.out (Nat.le_refl _)
 have hn : NN w' A2 n c2 xs a L := by
  have h := how.out
  exact ⟨h.isN, Hn.out.val, h.caps.1, Hn.out.le⟩
 clear how hgrow Hown Hb Hx Hn
 go_wp2
 go_ret
 exact ⟨_, _, _, rfl, hn, hb2⟩
end Go.Proofs.YtjikaojffgjndaaGreatDoor

/- What the reference's at, Trim and Add of layer 1 come to, as contracts over memory. Conditions: arguments read as limbs, of at most 10^8 of them. -/
namespace Go.Proofs.YtjikaojffgjndaaGreatDoor
open Go.RowKit Limb
set_option linter.unusedVariables false
theorem refAt_any (A : Option Addr) (n c : Nat) (xs : List Nat) (i : Int) (w : World) (hx : IsN w A n xs) (hm : n ≤ 1000000000) (h0 : 0 ≤ i) (h1 : i ≤ 9223372036854775807) :
 Calls Tryz.prog 115 #[.slice A n c, .int .i64 i] w fun e w' => e = .returned (.int .u64 ((lim xs i.toNat : Nat) : Int)) ∧ w = w' := by
 obtain ⟨i, rfl⟩ := Int.eq_ofNat_of_zero_le h0
 rw [Int.toNat_natCast]
 have hl := hx.len
 by_cases hi : i < n
 · obtain ⟨b, o, hA, hb1, hcell⟩ := hx.2.2 (by omega)
   subst hA
   have h2 := hcell i hi
   have hlt32 := lim_lt hx.small i
   go_enter Tryz.func115, Tryz.ntmps115
   go_wp2
   go_ret
   exact ⟨rfl, rfl⟩
 · have H := Lib.hid (lim_of_ge (xs := xs) (k := i) (by omega))
   have hi' : (n : Int) ≤ (i : Int) := by omega
   go_enter Tryz.func115, Tryz.ntmps115
   go_wp2
   go_ret
   exact ⟨by rw [H.out]; rfl, rfl⟩
set_option maxHeartbeats 400000 in
theorem refTrim_any (A : Option Addr) (n c : Nat) (xs : List Nat) (w : World) (hx : IsN w A n xs) (hc : n ≤ c) (hm : n ≤ 1000000000) :
 Calls Tryz.prog 99 #[.slice A n c] w fun e w' => ∃ A2 n2 c2, e = .returned (.slice A2 n2 c2) ∧ OwnN w' w.heap.size A2 n2 c2 (trim xs) ∧ Below w.heap.size w w' := by
 have hl := hx.len
 go_enter Tryz.func99, Tryz.ntmps99
 go_wp2
 go_loop [3] (fun i => ∃ k : Nat, k ≤ n ∧ i = .int .i64 k ∧ trim (xs.take k) = trim xs) (fun i => (intOf i).toNat)
 case atStart => exact ⟨n, Nat.le_refl _, rfl, by rw [List.take_of_length_le (by omega)]⟩
 case round =>
  obtain ⟨k, hk, rfl, ht⟩ := hrel
  by_cases hgo : 0 < k ∧ lim xs (k - 1) = 0
  · obtain ⟨hk0, hz⟩ := hgo
    obtain ⟨b, o, rfl, hb, hcell⟩ := hx.2.2 (by omega)
    have h1 := hcell (k - 1) (by omega)
    have h2 : trim (xs.take k) = trim (xs.take (k - 1)) := by
     have := trim_take_last (xs := xs) (k := k - 1) (by omega) hz
     rwa [Nat.sub_add_cancel (by omega)] at this
    have H2 := Lib.hid (h2.symm.trans ht)
    clear h2 ht
    rw [hz] at h1
    clear hz
    go_wp2
    go_round
    case rel => exact ⟨k - 1, by omega, by go_num, H2.out⟩
    case measure => simp [intOf]; omega
  · have h2 : trim xs = xs.take k := by
     rw [← ht]
     by_cases hk0 : k = 0
     · subst hk0; rfl
     · have := trim_take_full (xs := xs) (k := k - 1) (by omega) (fun h => hgo ⟨by omega, h⟩)
       rwa [Nat.sub_add_cancel (by omega)] at this
    have H2 := Lib.hid h2
    have hx2 := IsN.take hx hk
    have b0 := below_new w (.cells #[] 74)
    have Hx : RowKit.Hid (NN (w.alloc (.cells #[] 74)) A k c (xs.take k) (val (xs.take k)) 1000000000) := NN.below ⟨hx2, rfl, by omega, by omega⟩ b0
    have Hown : RowKit.Hid ((w.alloc (.cells #[] 74)).ownsRow w.heap.size 74 1 (.slice (some ⟨w.heap.size, 0, none⟩) 0 0) 0 (([] : List Nat).map limV)) := own_lit w [] 0 rfl (by omega)
    have Hb : RowKit.Hid (0 ≤ 1000000000 ∧ 1000000000 ≤ 1000000000 ∧ w.heap.size ≤ (w.alloc (.cells #[] 74)).heap.size ∧ Small []) := ⟨by omega, by omega, by simp, small_nil⟩
    clear hx2 b0
    by_cases hk0 : k = 0
    · subst hk0
      clear h2 ht
      go_wp2_with (at_builtin; refine wpList_append_nat rfl _ _ rfl w.heap.size _ 0 [] rfl Hown A 0 c (xs.take 0) (val (xs.take 0)) 1000000000 rfl Hx Hb ?_)
      intro A2 c2 w' how hgrow
      have hb2 := below_lit hgrow.out (Nat.le_refl _)
      have hn : OwnN w' w.heap.size A2 0 c2 (trim xs) := by
       rw [H2.out]
       exact how.out
      clear how hgrow Hown Hb Hx
      go_wp2
      go_ret
      exact ⟨_, _, _, rfl, hn, hb2⟩
    · obtain ⟨b, o, rfl, hb, hcell⟩ := hx.2.2 (by omega)
      have h1 := hcell (k - 1) (by omega)
      have hlt := lim_lt hx.small (k - 1)
      have hz' : (((lim xs (k - 1) : Nat) : Int) == 0) = false := by simp; exact fun h => hgo ⟨by omega, h⟩
      clear hgo h2 ht
      go_wp2_with (at_builtin; refine wpList_append_nat rfl _ _ rfl w.heap.size _ 0 [] rfl Hown (some ⟨b, o, none⟩) k c (xs.take k) (val (xs.take k)) 1000000000 rfl Hx Hb ?_)
      intro A2 c2 w' how hgrow
      have hb2 := below_lit hgrow.out (Nat.le_refl _)
      have hn : OwnN w' w.heap.size A2 k c2 (trim xs) := by
       rw [H2.out]
       exact how.out
      clear how hgrow Hown Hb Hx
      go_wp2
      go_ret
      exact ⟨_, _, _, rfl, hn, hb2⟩
def RAdd (xs ys zs : List Nat) (k cr : Nat) : Prop := zs.length = k ∧ Small zs ∧ val zs + cr * 4294967296 ^ k = val (xs.take k) + val (ys.take k) ∧ cr ≤ 1
theorem RAdd.start (xs ys : List Nat) : RAdd xs ys [] 0 0 := ⟨rfl, small_nil, by simp [val], by omega⟩
theorem RAdd.step {xs ys zs : List Nat} {k cr : Nat} (h : RAdd xs ys zs k cr) (hx : Small xs) (hy : Small ys) : RAdd xs ys (zs ++ [(lim xs k + lim ys k + cr) % 4294967296]) (k + 1) ((lim xs k + lim ys k + cr) / 4294967296) := by
 obtain ⟨h1, h2, h3, h4⟩ := h
 refine ⟨by simp [h1], small_append.2 ⟨h2, by intro v hv; simp at hv; omega⟩, ?_, ?_⟩
 · rw [val_append, h1, val_take_lim, val_take_lim, Nat.pow_succ]
   have := add_step (z := lim xs k) (y := lim ys k) (c := cr) (P := 4294967296 ^ k) h3
   simp only [val, Nat.mul_zero, Nat.add_zero]
   omega
 · have := lim_lt hx k
   have := lim_lt hy k
   omega
theorem RAdd.done {xs ys zs : List Nat} {k : Nat} (h : RAdd xs ys zs k 0) (hx : xs.length ≤ k) (hy : ys.length ≤ k) : val zs = val xs + val ys := by
 obtain ⟨h1, h2, h3, h4⟩ := h
 rw [List.take_of_length_le hx, List.take_of_length_le hy] at h3
 omega
theorem refTrim_o {A : Option Addr} {n c : Nat} {xs : List Nat} {a L : Nat} {w : World} (hx : NN w A n c xs a L) (h1 : L ≤ 1000000000) :
 Calls Tryz.prog 99 #[.slice A n c] w fun e w' => ∃ A2 n2 c2, e = .returned (.slice A2 n2 c2) ∧ OwnN w' w.heap.size A2 n2 c2 (limbs a) ∧ Below w.heap.size w w' := by
 refine (refTrim_any A n c xs w hx.isN hx.cap (by have := hx.le; omega)).mono ?_
 rintro e w' ⟨A2, n2, c2, rfl, how, hb⟩
 rw [limbs_of_NN hx] at how
 exact ⟨A2, n2, c2, rfl, how, hb⟩
theorem refTrim_c {A : Option Addr} {n c : Nat} {xs : List Nat} {a L : Nat} {w : World} (hx : NN w A n c xs a L) (h1 : L ≤ 1000000000) :
 Calls Tryz.prog 99 #[.slice A n c] w fun e w' => ∃ A2 n2 c2, e = .returned (.slice A2 n2 c2) ∧ NN w' A2 n2 c2 (limbs a) a L ∧ Below w.heap.size w w' := by
 refine (refTrim_any A n c xs w hx.isN hx.cap (by have := hx.le; omega)).mono ?_
 rintro e w' ⟨A2, n2, c2, rfl, how, hb⟩
 rw [limbs_of_NN hx] at how
 exact ⟨A2, n2, c2, rfl, NN.own how (lt_pow hx), hb⟩
theorem refAt_c {A : Option Addr} {n c : Nat} {xs : List Nat} {a L : Nat} {w : World} (hx : NN w A n c xs a L) (h1 : L ≤ 1000000000) (k : Nat) (hk : k ≤ 9000000000000000000) :
 Calls Tryz.prog 115 #[.slice A n c, .int .i64 (k : Int)] w fun e w' => e = .returned (.int .u64 ((lim xs k : Nat) : Int)) ∧ w = w' := by
 have := refAt_any A n c xs (k : Int) w hx.isN (by have := hx.le; omega) (by omega) (by omega)
 rwa [Int.toNat_natCast] at this
theorem OwnN.row {w : World} {B : Nat} {A : Option Addr} {n c : Nat} {zs : List Nat} (h : OwnN w B A n c zs) : w.ownsRow B 74 1 (.slice A n c) n (zs.map limV) := h.1
theorem OwnN.alloc {w : World} {B : Nat} {A : Option Addr} {n c : Nat} {zs : List Nat} (h : OwnN w B A n c zs) (o : Obj) : OwnN (w.alloc o) B A n c zs := ⟨h.1.alloc o, h.2⟩
theorem below_grown {w0 w w' : World} {A : Option Addr} {n c : Nat} {zs : List Nat} {o : Obj} (hb : Below w0.heap.size w0 w) (how : OwnN w w0.heap.size A n c zs) (hg : (w.alloc o).grownBy w' (Value.ownBlock (.slice A n c))) : Below w0.heap.size w0 w' :=
 (hb.alloc hb.size o).grown hg (by have := hb.size; simp; omega) (fun k hk => (how.1.lt k hk).1)
set_option maxHeartbeats 800000 in
theorem refAdd_c {A A' : Option Addr} {n c n' c' : Nat} {xs ys : List Nat} {a b L L' : Nat} {w : World} (hx : NN w A n c xs a L) (hy : NN w A' n' c' ys b L') (h1 : L ≤ 100000000) (h2 : L' ≤ 100000000) :
 Calls Tryz.prog 97 #[.slice A n c, .slice A' n' c'] w fun e w' => ∃ A2 n2 c2, e = .returned (.slice A2 n2 c2) ∧ NN w' A2 n2 c2 (limbs (a + b)) (a + b) (L + L' + 1) ∧ Below w.heap.size w w' := by
 have hle := hx.le
 have hle' := hy.le
 have hlx := hx.isN.len
 have hly := hy.isN.len
 have Hlx := Lib.hid hlx
 have Hly := Lib.hid hly
 clear hlx hly
 go_enter Tryz.func97, Tryz.ntmps97
 go_wp2
 go_loopw [7, 6, 5] (fun i cy v wr => ∃ (k cr : Nat) (zs : List Nat) (A2 : Option Addr) (c2 : Nat), k ≤ n + n' + 1 ∧ (n < k → n' < k → cr = 0) ∧ i = .int .i64 (k : Int) ∧ cy = .int .u64 (cr : Int) ∧ v = .slice A2 k c2 ∧ RAdd xs ys zs k cr ∧ OwnN wr w.heap.size A2 k c2 zs ∧ Below w.heap.size w wr) (fun i _ _ _ => n + n' + 2 - (intOf i).toNat)
 case atStart => exact ⟨0, 0, [], none, 0, by omega, fun h => by omega, rfl, rfl, rfl, RAdd.start _ _, OwnN.nil _ _, Below.refl _ _⟩
 case round =>
  obtain ⟨k, cr, zs, A2, c2, hk, hkc, rfl, rfl, rfl, hinv, how, bw⟩ := hrel
  have Hinv := Lib.hid hinv
  have hcr := hinv.2.2.2
  have Hkc := Lib.hid hkc
  clear hinv hkc
  have h_x := hx.below bw
  have h_y := hy.below bw
  by_cases hgo : k < n ∨ k < n' ∨ 0 < cr
  · have hk1 : k ≤ n + n' := by
     rcases hgo with h | h | h
     · omega
     · omega
     · have := Hkc.out; omega
    have b1 := lim_lt hx.isN.small k
    have b2 := lim_lt hy.isN.small k
    obtain ⟨sl, hsl⟩ : ∃ sl, sl = (lim xs k + lim ys k + cr) % 4294967296 := ⟨_, rfl⟩
    obtain ⟨sh, hsh⟩ : ∃ sh, sh = (lim xs k + lim ys k + cr) / 4294967296 := ⟨_, rfl⟩
    have es : ((cr : Int) + (((lim xs k : Nat) : Int) + ((lim ys k : Nat) : Int))) % 4294967296 = ((sl : Nat) : Int) := by omega
    have eh : ((cr : Int) + (((lim xs k : Nat) : Int) + ((lim ys k : Nat) : Int))) / 4294967296 = ((sh : Nat) : Int) := by omega
    have hsl2 : sl < 4294967296 := by omega
    have hkc2 : n < k + 1 → n' < k + 1 → sh = 0 := by
     intro p q
     rw [hsh, lim_of_ge (xs := xs) (by rw [Hlx.out]; omega), lim_of_ge (xs := ys) (by rw [Hly.out]; omega)]
     omega
    have Hkc2 := Lib.hid hkc2
    have Hst : RowKit.Hid (RAdd xs ys (zs ++ [sl]) (k + 1) sh) := by
     show RAdd _ _ _ _ _
     rw [hsl, hsh]; exact Hinv.out.step hx.isN.small hy.isN.small
    have Hown : RowKit.Hid ((wr.alloc (.cells #[Value.int IntKind.u32 (sl : Int)] 74)).ownsRow w.heap.size 74 1 (.slice A2 k c2) k (zs.map limV)) := (how.alloc _).row
    have Hlit : RowKit.Hid (NN (wr.alloc (.cells #[Value.int IntKind.u32 (sl : Int)] 74)) (some ⟨wr.heap.size, 0, none⟩) 1 1 [sl] (val [sl]) 1) := lit_c wr [sl] (by intro x hx; simp at hx; omega) 1 rfl
    have Hb : RowKit.Hid (k ≤ 1000000000 ∧ 1 ≤ 1000000000 ∧ w.heap.size ≤ (wr.alloc (.cells #[Value.int IntKind.u32 (sl : Int)] 74)).heap.size ∧ Small zs) := ⟨by omega, by omega, by have := bw.size; simp; omega, how.small⟩
    have How := Lib.hid how
    have Hbw := Lib.hid bw
    clear hkc2 hsl hsh hsl2 how bw
    rcases (show k < n ∨ (¬ k < n ∧ k < n') ∨ (¬ k < n ∧ ¬ k < n' ∧ 0 < cr) by omega) with h | ⟨h, h'⟩ | ⟨h, h', h''⟩
    all_goals
     clear hgo
     go_wp2_with fail
     refine (refAt_c h_x (by omega) k (by omega)).mono ?_
     rintro e w1 ⟨rfl, rfl⟩
     go_wp2_with fail
     refine (refAt_c h_y (by omega) k (by omega)).mono ?_
     rintro e w1 ⟨rfl, rfl⟩
     go_wp2_with (at_builtin; refine wpList_append_nat rfl _ _ rfl w.heap.size _ k zs rfl Hown (some ⟨wr.heap.size, 0, none⟩) 1 1 [sl] (val [sl]) 1 rfl Hlit Hb ?_)
     intro A3 c3 w3 how3 hg3
     have bw3 := below_grown Hbw.out How.out hg3.out
     have How3 := how3.out
     clear how3 hg3 Hown Hlit Hb How Hbw
     go_wp2
     go_roundw
     case rel => exact ⟨k + 1, sh, zs ++ [sl], A3, c3, by omega, Hkc2.out, by go_num, rfl, rfl, Hst.out, How3, bw3⟩
     case measure => simp [intOf]; omega
  · obtain rfl : cr = 0 := by omega
    have hv : val zs = a + b := by
     rw [Hinv.out.done (by rw [Hlx.out]; omega) (by rw [Hly.out]; omega), hx.val, hy.val]
    have hz : NN wr A2 k c2 zs (a + b) (L + L' + 1) := ⟨how.isN, hv, how.caps.1, by omega⟩
    have e1 : ¬ k < n := by omega
    have e2 : ¬ k < n' := by omega
    clear hgo hv how
    go_wp2_with fail
    refine (refTrim_c hz (by omega)).mono ?_
    rintro e w4 ⟨A4, n4, c4, rfl, h4, bn⟩
    go_wp2
    go_ret
    exact ⟨_, _, _, rfl, h4, below_two bw bn⟩
end Go.Proofs.YtjikaojffgjndaaGreatDoor

/- What package mul's helpers cut and addRow answer, as contracts over memory: the limbs that count; a row of products with carries laid over a part. Conditions: arguments read as limbs, of at most 10^9 of them; a part that is the row itself begins where the row does. -/
namespace Go.Proofs.YtjikaojffgjndaaGreatDoor
open Go.RowKit Limb
set_option linter.unusedVariables false
set_option maxHeartbeats 400000 in
theorem mulCut_any (A : Option Addr) (n c : Nat) (xs : List Nat) (w : World) (hx : IsN w A n xs) (hc : n ≤ c) (hm : n ≤ 1000000000) :
 Calls Tryz.prog 126 #[.slice A n c] w fun e w' => e = .returned (.slice A (trim xs).length c) ∧ w = w' := by
 have hlt := trim_len_le xs
 have hl := hx.len
 have hcount : (blen (val xs) + 31) / 32 = (trim xs).length := by rw [blen_count, trim_eq_limbs hx.small]
 have hb : blen (val xs) ≤ 32 * n := by
  have := val_lt hx.small
  rw [pow32, hl] at this
  exact blen_le this
 obtain ⟨m, hm2⟩ : ∃ m, m = (trim xs).length := ⟨_, rfl⟩
 rw [← hm2] at hcount hlt ⊢
 obtain ⟨b, hb2⟩ : ∃ b, b = blen (val xs) := ⟨_, rfl⟩
 have Hb2 := Lib.hid hb2
 rw [← hb2] at hcount hb
 have e1 : ((b : Int) + 32 - 1) / 32 = (m : Int) := by omega
 clear hm2 hb2 hcount
 go_enter Tryz.func126, Tryz.ntmps126
 go_wp2_with fail
 refine (bits_any A n c xs w hx hc hm).mono ?_
 rintro e w1 ⟨rfl, rfl⟩
 rw [← Hb2.out]
 go_wp2
 go_ret
 refine ⟨?_, rfl⟩
 first | rfl | (congr 2; omega)
def Others (g : Nat) (w w' : World) : Prop := ∀ k, k ≠ g → w'.heap[k]? = w.heap[k]?
theorem Others.refl (g : Nat) (w : World) : Others g w w := fun _ _ => rfl
theorem Others.setCell {g : Nat} {a w : World} (h : Others g a w) (k : Nat) (u : Value) : Others g a (w.setCell ⟨g, k, none⟩ u) := fun j hj => (Below.heap_setCell w _ u j hj).trans (h j hj)
theorem cell_setCell_ne {a b : Addr} (w : World) (v : Value) (h : a ≠ b) : (w.setCell a v).cell? b = w.cell? b := World.cell?_setCell_other (w := w) (a := a) (b := b) (v := v) h
theorem OwnN.others {w w' : World} {B g : Nat} {A : Option Addr} {n c : Nat} {zs : List Nat} (h : OwnN w B A n c zs) (ho : Others g w w') (hA : ∀ b o s, A = some ⟨b, o, s⟩ → b ≠ g) : OwnN w' B A n c zs := by
 refine ⟨⟨h.1.1, ?_⟩, h.2⟩
 rcases h.1.2 with h2 | ⟨k, cap, cur, hv, hg, hh, r⟩
 · exact .inl h2
 · refine .inr ⟨k, cap, cur, hv, hg, ?_, r⟩
   rw [ho k ?_]
   · exact hh
   · injection hv with hA2
     exact hA _ _ _ hA2
set_option maxHeartbeats 1000000 in
theorem addRow_any (w0 w : World) (hb : Below w0.heap.size w0 w) (g m cs : Nat) (zs : List Nat) (how : OwnN w w0.heap.size (some ⟨g, 0, none⟩) (m + 1) cs zs)
 (Ap : Option Addr) (np cp : Nat) (ps : List Nat) (hp : IsN w Ap np ps) (hpm : m ≤ np) (hdis : ∀ b o, Ap = some ⟨b, o, none⟩ → b = g → o = 0)
 (A : Option Addr) (c : Nat) (xs : List Nat) (hx : IsN w0 A m xs) (v : Nat) (hv : v < 4294967296) (hm : m ≤ 1000000000) :
 Calls Tryz.prog 127 #[.slice (some ⟨g, 0, none⟩) (m + 1) cs, .slice Ap np cp, .slice A m c, .int .u32 (v : Int)] w fun e w' => e = .returned (.tuple #[]) ∧
  (∃ zs', OwnN w' w0.heap.size (some ⟨g, 0, none⟩) (m + 1) cs zs' ∧ val zs' = val (ps.take m) + v * val xs) ∧ Below w0.heap.size w0 w' ∧ Others g w w' := by
 have hBg : w0.heap.size ≤ g := by
  obtain ⟨g', e, h1, _⟩ := how.addr (by omega)
  injection e with e; injection e with e; subst e; exact h1
 have hps : ∀ j, 0 ≤ j → j < m → ∃ b o, Ap = some ⟨b, o, none⟩ ∧ w.cell? ⟨b, o + j, none⟩ = some (.int .u32 ((lim ps j : Nat) : Int)) := by
  intro j _ hj
  obtain ⟨b, o, e, _, hc⟩ := hp.2.2 (by omega)
  exact ⟨b, o, e, hc j (by omega)⟩
 have hsp := hp.small
 have hsx := hx.small
 have Hpl := Lib.hid hp.len
 have Hxl := Lib.hid hx.len
 have Hps := Lib.hid hps
 have Hdis := Lib.hid hdis
 have Hzl := Lib.hid how.len
 clear hps hdis hp
 go_enter Tryz.func127, Tryz.ntmps127
 go_wp2
 go_loopw [13, 8] (fun i cy wr => ∃ (k cr : Nat) (zs : List Nat), k ≤ m ∧ i = .int .i64 (k : Int) ∧ cy = .int .u64 (cr : Int) ∧ RowInv xs ps zs v k cr ∧ OwnN wr w0.heap.size (some ⟨g, 0, none⟩) (m + 1) cs zs ∧ Below w0.heap.size w0 wr ∧ Others g w wr ∧
  RowKit.Hid (∀ j, k ≤ j → j < m → ∃ b o, Ap = some ⟨b, o, none⟩ ∧ wr.cell? ⟨b, o + j, none⟩ = some (.int .u32 ((lim ps j : Nat) : Int)))) (fun i _ _ => m - (intOf i).toNat)
 case atStart => exact ⟨0, 0, zs, Nat.zero_le _, rfl, rfl, RowInv.start _ _ _ _, how, hb, Others.refl _ _, Hps⟩
 case round =>
  clear how hb Hps Hzl
  obtain ⟨k, cr, zs, hk, rfl, rfl, hinv, how, hbe, hoth, Hps⟩ := hrel
  have hcr := hinv.2
  have Hinv := Lib.hid hinv
  have Hzl := Lib.hid how.len
  have Hoth := Lib.hid hoth
  clear hinv hoth
  by_cases hkm : k < m
  · obtain ⟨b1, o1, rfl, hb1, hc1⟩ := hx.2.2 (by omega)
    have h1 : wr.cell? ⟨b1, o1 + k, none⟩ = some (.int .u32 ((lim xs k : Nat) : Int)) := (hbe.cell (p := ⟨b1, o1 + k, none⟩) hb1).trans (hc1 k hkm)
    obtain ⟨b2, o2, rfl, h2⟩ := Hps.out k (Nat.le_refl _) hkm
    have h3 := how.cell (k := k) (by omega)
    have h4 := how.1.frozenAt k
    have l1 := lim_lt hsx k
    have l2 := lim_lt hsp k
    have hq := limb_prod l1 hv
    have hq1 : ((lim xs k : Nat) : Int) * (v : Int) ≤ 18446744065119617025 := by
     have : ((lim xs k * v : Nat) : Int) ≤ 18446744065119617025 := by omega
     rwa [Int.natCast_mul] at this
    have hq0 : 0 ≤ ((lim xs k : Nat) : Int) * (v : Int) := by
     have : 0 ≤ ((lim xs k * v : Nat) : Int) := by omega
     rwa [Int.natCast_mul] at this
    obtain ⟨lo, hlo⟩ : ∃ lo, lo = (cr + lim xs k * v + lim ps k) % 4294967296 := ⟨_, rfl⟩
    obtain ⟨hi, hhi⟩ : ∃ hi, hi = (cr + lim xs k * v + lim ps k) / 4294967296 := ⟨_, rfl⟩
    have eI : ((lim xs k * v : Nat) : Int) = ((lim xs k : Nat) : Int) * (v : Int) := Int.natCast_mul _ _
    have hlo2 : lo < 4294967296 := by omega
    have hsum : lo + hi * 4294967296 = cr + lim xs k * v + lim ps k := by omega
    have elo : ((cr : Int) + (((lim xs k : Nat) : Int) * (v : Int) + ((lim ps k : Nat) : Int))) % 4294967296 = (lo : Int) := by omega
    have ehi : ((cr : Int) + (((lim xs k : Nat) : Int) * (v : Int) + ((lim ps k : Nat) : Int))) / 4294967296 = (hi : Int) := by omega
    have Hst : RowKit.Hid (RowInv xs ps (zs.set k lo) v (k + 1) hi) := Hinv.out.step (by have := Hzl.out; omega) hsx hsp hv hlo2 hsum
    have Hset : RowKit.Hid (OwnN (wr.setCell ⟨g, k, none⟩ (.int .u32 (lo : Int))) w0.heap.size (some ⟨g, 0, none⟩) (m + 1) cs (zs.set k lo)) := how.set k hlo2
    have Hbe : RowKit.Hid (Below w0.heap.size w0 (wr.setCell ⟨g, k, none⟩ (.int .u32 (lo : Int)))) := hbe.setCell (by exact hBg) _
    have Ho2 : RowKit.Hid (Others g w (wr.setCell ⟨g, k, none⟩ (.int .u32 (lo : Int)))) := Hoth.out.setCell k _
    have Hps2 : RowKit.Hid (∀ j, k + 1 ≤ j → j < m → ∃ b o, (some (⟨b2, o2, none⟩ : Addr)) = some ⟨b, o, none⟩ ∧ (wr.setCell ⟨g, k, none⟩ (.int .u32 (lo : Int))).cell? ⟨b, o + j, none⟩ = some (.int .u32 ((lim ps j : Nat) : Int))) := by
     intro j h5 h6
     obtain ⟨b, o, e, hc⟩ := Hps.out j (by omega) h6
     refine ⟨b, o, e, (cell_setCell_ne _ _ ?_).trans hc⟩
     intro e2
     injection e2 with e3 e4
     have := Hdis.out b o e e3.symm
     omega
    clear hq hlo hhi hsum
    clear eI
    go_wp2
    go_roundw
    case rel => exact ⟨k + 1, hi, zs.set k lo, by omega, by go_num, rfl, Hst.out, Hset.out, Hbe.out, Ho2.out, Hps2⟩
    case measure => simp [intOf]; omega
  · obtain rfl : k = m := by omega
    have h3 := how.cell (k := k) (by omega)
    have h4 := how.1.frozenAt k
    have Hset : RowKit.Hid (OwnN (wr.setCell ⟨g, k, none⟩ (.int .u32 (cr : Int))) w0.heap.size (some ⟨g, 0, none⟩) (k + 1) cs (zs.set k cr)) := how.set k hcr
    have Hbe : RowKit.Hid (Below w0.heap.size w0 (wr.setCell ⟨g, k, none⟩ (.int .u32 (cr : Int)))) := hbe.setCell (by exact hBg) _
    have Ho2 : RowKit.Hid (Others g w (wr.setCell ⟨g, k, none⟩ (.int .u32 (cr : Int)))) := Hoth.out.setCell k _
    have Hd : RowKit.Hid (val (zs.set k cr) = val (ps.take k) + v * val xs) := Hinv.out.done Hzl.out Hxl.out
    go_wp2
    first | go_end0 | refine bodyPost_ret (results_none rfl _ _ _) rfl ?_
    exact ⟨rfl, ⟨_, Hset.out, Hd.out⟩, Hbe.out, Ho2.out⟩
end Go.Proofs.YtjikaojffgjndaaGreatDoor

/- What package mul's Of answers, as a contract over memory: the product of the numbers that both lists tell, in its shortest limbs, in new memory. Conditions: both read as limbs, of at most 10^8 of them. -/
namespace Go.Proofs.YtjikaojffgjndaaGreatDoor
open Go.RowKit Limb
set_option linter.unusedVariables false
theorem run_made (V : Int) (n : Nat) (hV : V = n) (hn : n ≤ 2000000000) (W : World) : (Instr.makeSlice 23 (.int .i64 V) (.int .i64 V)).run Tryz.prog W = .ok (.slice (some ⟨W.heap.size, 0, none⟩) n n) (W.alloc (.cells (madeCells #[.int .u32 0] n) 74)) := by
 subst hV
 obtain ⟨i0, hi, hz0, hz1, hz2⟩ := info_parts u32_info
 have h := run_make (P := Tryz.prog) W 23 74 i0 (.int .u32 0) Tryz.underlying23 hi hz0 .i64 .i64 (n : Int) (n : Int) (by omega) (by omega) (by rw [hz2]; omega) (by omega)
 rw [hz1] at h
 rw [Int.toNat_natCast, Nat.mul_one] at h
 exact h
theorem own_made (w : World) (n : Nat) (hn : n ≤ 2000000000) : OwnN (w.alloc (.cells (madeCells #[.int .u32 0] n) 74)) w.heap.size (some ⟨w.heap.size, 0, none⟩) n n (List.replicate n 0) := by
 have Hg : (w.alloc (.cells (madeCells #[.int .u32 0] n) 74)).heap[w.heap.size]? = some (.cells (List.replicate n (Value.int .u32 0)).toArray 74 (0, 0)) := by
  rw [heap_alloc_new, ← toList_madeCells_one]
 refine ⟨⟨by simp, .inr ⟨w.heap.size, n, _, rfl, Nat.le_refl _, Hg, Nat.le_refl _, by unfold maxLen; omega, ?_, ?_⟩⟩, small_zeros _⟩
 · simp
 · simp [limV]
theorem OwnN.tail {w : World} {B g n c : Nat} {zs : List Nat} (h : OwnN w B (some ⟨g, 0, none⟩) n c zs) (k : Nat) (hk : k < n) : IsN w (some ⟨g, k, none⟩) (n - k) (zs.drop k) := by
 have hl := h.len
 obtain ⟨b, o, e, hb, hc⟩ := h.isN.2.2 (by omega)
 injection e with e; injection e with e1 e2; subst e1; subst e2
 refine ⟨by simp; omega, small_drop h.small _, fun _ => ⟨g, k, rfl, hb, fun j hj => ?_⟩⟩
 rw [lim_drop]
 have := hc (k + j) (by omega)
 rwa [Nat.zero_add] at this
theorem wpList_copy_nat {w : World} {ops : Array Oper} {rest : List Oper} {o : Oper} {a : Act} {Q : Exit → Act → World → Prop} (hgd : o.guard = none) (d s : Operand)
 (ho : o.op = .call { callee := .builtin .copy, args := #[d, s], argTypes := #[23, 23] })
 (g off dLen dCap : Nat) (sp : Option Addr) (sLen sCap : Nat) (hd : a.eval d = .slice (some ⟨g, off, none⟩) dLen dCap) (hs : a.eval s = .slice sp sLen sCap)
 (B n : Nat) (zs : List Nat) (hown : Hid (OwnN w B (some ⟨g, 0, none⟩) n n zs)) (ys : List Nat) (hy : Hid (IsN w sp sLen ys)) (hlen : Hid (sLen ≤ dLen ∧ off + sLen ≤ n))
 (h : ∀ w', Hid (OwnN w' B (some ⟨g, 0, none⟩) n n (lay zs off ys)) → Hid (Others g w w') → Hid (∀ w0, Below B w0 w → Below B w0 w') → wpList Tryz.prog ops Q rest (a.put o.dst (goInt sLen)) w') :
 wpList Tryz.prog ops Q (o :: rest) a w := by
 have hyl := hy.out.len
 obtain ⟨h1, h2⟩ := hlen.out
 by_cases h0 : sLen = 0
 · subst h0
   obtain rfl : ys = [] := List.eq_nil_of_length_eq_zero hyl
   refine wpList_copy_nothing hgd d s _ _ ho 74 Tryz.underlying23 u32_size _ _ _ _ _ _ hd hs (Nat.zero_min _) ?_
   have e : lay zs off [] = zs := by simp [lay]
   exact h w (show OwnN _ _ _ _ _ _ by rw [e]; exact hown.out) (Others.refl _ _) (fun _ hb => hb)
 · obtain ⟨b, ob, rfl, hb1, hcell⟩ := hy.out.2.2 (by omega)
   have hzl := hown.out.len
   rcases hown.out.1.2 with ⟨hv, _⟩ | ⟨g2, cap, cur, hv, hg, hh, h3, h4, h5, h6⟩
   · cases hv
   · injection hv with e1 e2 e3
     injection e1 with e1
     injection e1 with e1
     subst e1
     subst e3
     rw [Nat.mul_one] at h5 h6
     have hcur : cur.toList = zs.map limV := by rw [← h6, List.take_of_length_le (by simp [h5])]
     have hb : ∀ w0, Below B w0 w → Below B w0 (w.setRow g (cur.toList.take off ++ ((ys.map limV) ++ cur.toList.drop (off + (ys.map limV).length))).toArray) := fun w0 hb => below_setRow hb hg _
     have ho' : Others g w (w.setRow g (cur.toList.take off ++ ((ys.map limV) ++ cur.toList.drop (off + (ys.map limV).length))).toArray) := fun k hk => setRow_other w g k _ hk
     have hn : OwnN (w.setRow g (cur.toList.take off ++ ((ys.map limV) ++ cur.toList.drop (off + (ys.map limV).length))).toArray) B (some ⟨g, 0, none⟩) n n (lay zs off ys) := by
      have hl2 : (lay zs off ys).length = n := by rw [lay_length (by omega), hzl]
      refine ⟨⟨by simp [hl2], .inr ⟨g, n, _, rfl, hg, setRow_heap w g _ _ _ _ hh, Nat.le_refl _, h4, ?_, ?_⟩⟩, lay_small hown.out.small hy.out.small⟩
      · rw [hcur]; simp; omega
      · rw [hcur, List.take_of_length_le (by simp; omega)]
        simp [lay, List.map_append, List.map_take, List.map_drop]
     have e2 : goInt (ys.map limV).length = goInt sLen := by rw [List.length_map, hyl]
     refine wpList_copy_own hgd d s _ _ ho 74 Tryz.underlying23 u32_size g off dLen dCap ⟨b, ob, none⟩ sLen sCap hd hs cur 74 hh (ys.map limV) (by rw [List.length_map, hyl]; exact (Nat.min_eq_left h1).symm) ?_ ?_ (oneCell_u32 ys) ?_
     · intro j v hv
       obtain ⟨hj, rfl⟩ := map_u32_get hv
       have e : (⟨b, ob, none⟩ : Addr).add j = ⟨b, ob + j, none⟩ := by unfold Addr.add; split <;> simp_all
       rw [e]
       exact hcell j (by omega)
     · rw [h5]; simp; omega
     · rw [e2]
       exact h _ hn ho' hb
def ProdIs (a b t : Nat) : Prop := a * b = t
set_option maxHeartbeats 2000000 in
theorem mulOf_any (A : Option Addr) (n c : Nat) (xs : List Nat) (A' : Option Addr) (n' c' : Nat) (ys : List Nat) (w : World) (hx : IsN w A n xs) (hy : IsN w A' n' ys) (hm : n ≤ 100000000) (hm' : n' ≤ 100000000) (hc : n ≤ c) (hc' : n' ≤ c') :
 Calls Tryz.prog 79 #[.slice A n c, .slice A' n' c'] w fun e w' => ∃ A2 n2 c2, e = .returned (.slice A2 n2 c2) ∧ OwnN w' w.heap.size A2 n2 c2 (limbs (val xs * val ys)) ∧ Below w.heap.size w w' := by
 have hlt := trim_len_le xs
 have hlt' := trim_len_le ys
 have hl := hx.len
 have hl' := hy.len
 have hx' := IsN.take hx (m := (trim xs).length) (by omega)
 rw [← trim_take xs] at hx'
 have hy' := IsN.take hy (m := (trim ys).length) (by omega)
 rw [← trim_take ys] at hy'
 have ex := trim_eq_limbs hx.small
 have ey := trim_eq_limbs hy.small
 have hb : (trim xs).length ≤ 100000000 := by omega
 have hb' : (trim ys).length ≤ 100000000 := by omega
 have Hl : RowKit.Hid (val (trim xs) = val xs) := by show _ = _; rw [ex, val_limbs]
 have Hl' : RowKit.Hid (val (trim ys) = val ys) := by show _ = _; rw [ey, val_limbs]
 clear hl hl' ex ey hlt hlt'
 go_enter Tryz.func79, Tryz.ntmps79
 go_wp2_with fail
 refine (mulCut_any A n c xs w hx hc (by omega)).mono ?_
 rintro e w1 ⟨rfl, rfl⟩
 go_wp2_with fail
 refine (mulCut_any A' n' c' ys w hy hc' (by omega)).mono ?_
 rintro e w1 ⟨rfl, rfl⟩
 generalize trim xs = xs' at *
 generalize trim ys = ys' at *
 clear hx hy
 by_cases hlen : xs'.length < ys'.length
 case' pos =>
  have hle : xs'.length ≤ ys'.length := by omega
  have hlen' : decide (((xs'.length : Nat) : Int) < ((ys'.length : Nat) : Int)) = true := by simpa using hlen
  have HT : ProdIs (val ys') (val xs') (val xs * val ys) := by unfold ProdIs; rw [Hl.out, Hl'.out]; exact Nat.mul_comm _ _
  obtain ⟨long, e⟩ : ∃ l, l = ys' := ⟨_, rfl⟩
  subst e
  obtain ⟨short, e⟩ : ∃ l, l = xs' := ⟨_, rfl⟩
  subst e
  have hL := hy'
  have hS := hx'
  have hbL := hb'
  have hbS := hb
  clear hy' hx' hb hb' Hl Hl' hc hc' hm hm'
 case' neg =>
  have hle : ys'.length ≤ xs'.length := by omega
  have hlen' : decide (((xs'.length : Nat) : Int) < ((ys'.length : Nat) : Int)) = false := by simpa using hlen
  have hlenN : decide (xs'.length < ys'.length) = false := by simpa using hlen
  clear hlen
  have HT : ProdIs (val xs') (val ys') (val xs * val ys) := by unfold ProdIs; rw [Hl.out, Hl'.out]
  obtain ⟨long, e⟩ : ∃ l, l = xs' := ⟨_, rfl⟩
  subst e
  obtain ⟨short, e⟩ : ∃ l, l = ys' := ⟨_, rfl⟩
  subst e
  have hL := hx'
  have hS := hy'
  have hbL := hb
  have hbS := hb'
  clear hy' hx' hb hb' Hl Hl' hc hc' hm hm'
 all_goals
  by_cases h0 : short.length = 0
  · obtain rfl : short = [] := List.eq_nil_of_length_eq_zero h0
    have Hf : RowKit.Hid (limbs (val xs * val ys) = []) := by
     show _ = _
     unfold ProdIs at HT
     rw [← HT]
     simp [val, limbs_zero]
    go_wp2
    go_ret
    exact ⟨_, _, _, rfl, by rw [Hf.out]; exact OwnN.nil _ _, Below.refl _ _⟩
  · have hne : (((short.length : Nat) : Int) == 0) = false := by simp; intro h; exact h0 (by rw [h]; rfl)
    have hpos : 0 < short.length := by omega
    clear h0
    have hmk1 := run_made ((long.length : Int) + (short.length : Int)) (long.length + short.length) (by omega) (by omega)
    have hmk2 := run_made ((long.length : Int) + 1) (long.length + 1) (by omega) (by omega)
    have b0 := below_new w (.cells (madeCells #[.int .u32 0] (long.length + short.length)) 74)
    have b1 := below_two b0 (below_new _ (.cells (madeCells #[.int .u32 0] (long.length + 1)) 74))
    have ho : OwnN _ w.heap.size _ _ _ _ := (own_made w (long.length + short.length) (by omega)).below (below_new _ (.cells (madeCells #[.int .u32 0] (long.length + 1)) 74)) (Nat.le_refl _)
    have hs := (own_made (w.alloc (.cells (madeCells #[.int .u32 0] (long.length + short.length)) 74)) (long.length + 1) (by omega)).mono (B' := w.heap.size) (by simp)
    have hi0 : MulInv long short (List.replicate (long.length + short.length) 0) 0 := MulInv.start _ _
    have hgs : (w.alloc (.cells (madeCells #[.int .u32 0] (long.length + short.length)) 74)).heap.size = w.heap.size + 1 := by simp
    rw [hgs] at hs
    have hsmS := hS.small
    have Hi0 := Lib.hid hi0
    have Ho := Lib.hid ho
    have Hs := Lib.hid hs
    have Hb1 := Lib.hid b1
    clear hi0 ho hs b1 b0 hgs
    go_wp2
    go_loopw [37] (fun i wr => ∃ (k : Nat) (zs zt : List Nat), k ≤ short.length ∧ i = .int .i64 (k : Int) ∧ RowKit.Hid (MulInv long short zs k) ∧ RowKit.Hid (OwnN wr w.heap.size (some ⟨w.heap.size, 0, none⟩) (long.length + short.length) (long.length + short.length) zs) ∧
     RowKit.Hid (OwnN wr w.heap.size (some ⟨w.heap.size + 1, 0, none⟩) (long.length + 1) (long.length + 1) zt) ∧ RowKit.Hid (Below w.heap.size w wr)) (fun i _ => short.length - (intOf i).toNat)
    case atStart => exact ⟨0, _, _, Nat.zero_le _, rfl, Hi0, Ho, Hs, Hb1⟩
    case round =>
     clear Hi0 Ho Hs Hb1 hmk1 hmk2
     obtain ⟨k, zs, zt, hk, rfl, Hinv, Ho, Hs, Hb⟩ := hrel
     by_cases hkq : k < short.length
     · obtain ⟨bs, os, hA, hbs, hcs⟩ := hS.2.2 (by omega)
       subst hA
       have h1 : wr.cell? ⟨bs, os + k, none⟩ = some (.int .u32 ((lim short k : Nat) : Int)) := (Hb.out.cell (p := ⟨bs, os + k, none⟩) hbs).trans (hcs k hkq)
       have l1 := lim_lt hsmS k
       have Hpart : RowKit.Hid (IsN wr (some ⟨w.heap.size, k, none⟩) (long.length + short.length - k) (zs.drop k)) := Ho.out.tail k (by omega)
       have Hdis : RowKit.Hid (∀ b o, (some (⟨w.heap.size, k, none⟩ : Addr)) = some ⟨b, o, none⟩ → b = w.heap.size + 1 → o = 0) := by
        intro b o e1 e2
        injection e1 with e1; injection e1 with e1
        omega
       go_wp2_with fail
       refine (addRow_any w wr Hb.out (w.heap.size + 1) long.length (long.length + 1) zt Hs.out _ _ _ (zs.drop k) Hpart.out (by omega) Hdis.out _ _ long hL (lim short k) l1 (by omega)).mono ?_
       rintro e w2 ⟨rfl, ⟨zu, hu, hvu⟩, hb2, ho2⟩
       have Ho2 : RowKit.Hid (OwnN w2 w.heap.size (some ⟨w.heap.size, 0, none⟩) (long.length + short.length) (long.length + short.length) zs) := Ho.out.others ho2 (by intro b o s e; injection e with e; injection e with e; omega)
       have Hu := Lib.hid hu.isN
       have Hu2 := Lib.hid hu
       have Hul := Lib.hid hu.len
       have Hv := Lib.hid hvu
       have Hb2 := Lib.hid hb2
       have Hlen : RowKit.Hid (long.length + 1 ≤ long.length + short.length - k ∧ k + (long.length + 1) ≤ long.length + short.length) := ⟨by omega, by omega⟩
       clear hu hvu hb2 ho2 Hb Ho Hs Hpart Hdis
       go_wp2_with (with_reducible refine wpList_copy_nat rfl (.tmp 51) (.tmp 52) rfl w.heap.size k (long.length + short.length - k) (long.length + short.length - k) (some ⟨w.heap.size + 1, 0, none⟩) (long.length + 1) (long.length + 1) rfl rfl w.heap.size (long.length + short.length) zs Ho2 zu Hu Hlen ?_)
       intro w3 Ho3 Hoth Hbel
       have Hs3 : RowKit.Hid (OwnN w3 w.heap.size (some ⟨w.heap.size + 1, 0, none⟩) (long.length + 1) (long.length + 1) zu) := Hu2.out.others Hoth.out (by intro b o s e; injection e with e; injection e with e; omega)
       have Hb3 : RowKit.Hid (Below w.heap.size w w3) := Hbel.out w Hb2.out
       have Hst : RowKit.Hid (MulInv long short (lay zs k zu) (k + 1)) := Hinv.out.step (by omega) Hul.out Hv.out
       clear Hoth Hbel Hb2 Hu Hu2 Hv Hinv
       go_wp2
       go_roundw
       case rel => exact ⟨k + 1, lay zs k zu, zu, by omega, by go_num, Hst, Ho3, Hs3, Hb3⟩
       case measure => simp [intOf]; omega
     · obtain rfl : k = short.length := by omega
       have hz := Ho.out.isN
       have hzl := Ho.out.len
       have ht := trim_len_le zs
       have how2 := Ho.out.take (m := (trim zs).length) (by omega)
       rw [← trim_take zs] at how2
       have Hf : RowKit.Hid (trim zs = limbs (val xs * val ys)) := by
        show _ = _
        unfold ProdIs at HT
        rw [trim_eq_limbs Ho.out.small, Hinv.out.done, HT]
       go_wp2_with fail
       refine (mulCut_any _ _ _ zs _ hz (Nat.le_refl _) (by omega)).mono ?_
       rintro e w3 ⟨rfl, rfl⟩
       go_wp2
       go_ret
       refine ⟨_, (trim zs).length, _, rfl, ?_, Hb.out⟩
       rw [← Hf.out]
       exact how2
end Go.Proofs.YtjikaojffgjndaaGreatDoor
