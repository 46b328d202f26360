/- What package nat's helpers cut and copied answer, as contracts over memory: the limbs that count, in the same memory; a copy in new memory. Conditions: the argument reads as limbs, of at most 2^46 of them. -/
import Derived.Test.YtpkjooiddejgpaaDoorBase
import Derived.Laws.CopyOwn
import Derived.BigQuiet
import Derived.Deep.QuietTactic
import Derived.Deep.Draws
namespace Go.Proofs.YtpkjooiddejgpaaDoor
open Go.RowKit Limb
set_option linter.unusedVariables false

set_option maxHeartbeats 400000 in
theorem cut_any (A : Option Addr) (n c : Nat) (xs : List Nat) (w : World) (hx : IsN w A n xs) (hc : n ≤ c) (hm : n ≤ maxLen) :
    Calls Tryd.prog 33 #[.slice A n c] w fun e w' => e = .returned (.slice A (trim xs).length c) ∧ w = w' := by
  unfold maxLen at hm
  have hl := hx.len
  go_enter Tryd.func33, Tryd.ntmps33
  go_wp2
  go_loop [3] (fun i => ∃ k : Nat, k ≤ n ∧ i = .int .i64 k ∧ trim (xs.take k) = trim xs) (fun i => (intOf i).toNat)
  case atStart => exact ⟨n, Nat.le_refl _, rfl, by rw [List.take_of_length_le (by omega)]⟩
  case round =>
    obtain ⟨k, hk, rfl, ht⟩ := hrel
    by_cases hk0 : k = 0
    · subst hk0
      go_wp2
      go_ret
      refine ⟨?_, rfl⟩
      rw [← ht]; rfl
    · obtain ⟨b, o, rfl, hb, hcell⟩ := hx.2.2 (by omega)
      have h1 := hcell (k - 1) (by omega)
      have hlt := lim_lt hx.small (k - 1)
      by_cases hz : lim xs (k - 1) = 0
      · have h2 : trim (xs.take k) = trim (xs.take (k - 1)) := by
          have := trim_take_last (xs := xs) (k := k - 1) (by omega) hz
          rwa [Nat.sub_add_cancel (by omega)] at this
        have H2 := Lib.hid (h2.symm.trans ht)
        clear h2 ht
        rw [hz] at h1
        clear hz
        go_wp2
        go_round
        case rel => exact ⟨k - 1, by omega, by go_num, H2.out⟩
        case measure => simp [intOf]; omega
      · have h2 : trim (xs.take k) = xs.take k := by
          have := trim_take_full (xs := xs) (k := k - 1) (by omega) hz
          rwa [Nat.sub_add_cancel (by omega)] at this
        have H2 : RowKit.Hid ((trim xs).length = k) := Lib.hid (by rw [← ht, h2, List.length_take]; omega)
        clear h2 ht
        have hz' : (((lim xs (k - 1) : Nat) : Int) == 0) = false := by simp; exact hz
        go_wp2
        go_ret
        exact ⟨by rw [H2.out]; rfl, rfl⟩

theorem u32_info : (Tryd.prog.info? 39).map (fun i => (i.zero, i.size, i.bytes)) = some (some (.int .u32 0), 1, 4) := by kernel_rfl
theorem u32_size : (Tryd.prog.info? 39).map (·.size) = some 1 := by kernel_rfl

/-- A limb as a value. -/
def limV (x : Nat) : Value := .int .u32 (x : Int)

theorem oneCell_u32 (xs : List Nat) : ∀ v ∈ xs.map limV, v.oneCell' = true := by
  intro v hv
  obtain ⟨x, _, rfl⟩ := List.mem_map.1 hv
  rfl

theorem map_u32_get {xs : List Nat} {j : Nat} {v : Value} (h : (xs.map limV)[j]? = some v) : j < xs.length ∧ v = limV (lim xs j) := by
  rw [List.getElem?_map] at h
  by_cases hj : j < xs.length
  · rw [List.getElem?_eq_getElem hj] at h
    simp at h
    exact ⟨hj, by rw [← h]; simp [lim, List.getD_eq_getElem?_getD, List.getElem?_eq_getElem hj]⟩
  · rw [List.getElem?_eq_none (by omega)] at h; simp at h

/-- A row of limbs that the call itself made. -/
def OwnN (w : World) (B : Nat) (A : Option Addr) (n c : Nat) (zs : List Nat) : Prop :=
  w.ownsRow B 39 1 (.slice A n c) n (zs.map limV) ∧ Small zs

theorem OwnN.len {w : World} {B : Nat} {A : Option Addr} {n c : Nat} {zs : List Nat} (h : OwnN w B A n c zs) : zs.length = n := by
  have := h.1.1; simpa using this
theorem OwnN.small {w : World} {B : Nat} {A : Option Addr} {n c : Nat} {zs : List Nat} (h : OwnN w B A n c zs) : Small zs := h.2
theorem OwnN.isN {w : World} {B : Nat} {A : Option Addr} {n c : Nat} {zs : List Nat} (h : OwnN w B A n c zs) : IsN w A n zs := by
  refine ⟨h.len, h.2, fun hn => ?_⟩
  rcases h.1.2 with ⟨_, h0⟩ | ⟨g, cap, cur, hv, hg, hh, _⟩
  · omega
  · injection hv with hA _ hc
    subst hA
    subst hc
    refine ⟨g, 0, rfl, ?_, fun j hj => ?_⟩
    · rcases Nat.lt_or_ge g w.heap.size with hlt | hge
      · exact hlt
      · rw [Array.getElem?_eq_none hge] at hh; cases hh
    · rw [Nat.zero_add, h.1.cellAt j (by omega), List.getElem?_map, List.getElem?_eq_getElem (by rw [h.len]; exact hj)]
      simp [limV, lim, List.getD_eq_getElem?_getD, List.getElem?_eq_getElem (show j < zs.length by rw [h.len]; exact hj)]
theorem OwnN.caps {w : World} {B : Nat} {A : Option Addr} {n c : Nat} {zs : List Nat} (h : OwnN w B A n c zs) : n ≤ c ∧ c ≤ maxLen := by
  rcases h.1.2 with ⟨hv, h0⟩ | ⟨g, cap, cur, hv, hg, hh, h1, h2, _⟩
  · injection hv with _ _ hc; subst hc; subst h0; exact ⟨Nat.le_refl _, Nat.zero_le _⟩
  · injection hv with _ _ hc; subst hc; exact ⟨h1, h2⟩
theorem OwnN.nil (w : World) (B : Nat) : OwnN w B none 0 0 [] := ⟨World.ownsRow_nil _ _ _ _, small_nil⟩

set_option maxHeartbeats 400000 in
theorem copied_any (A : Option Addr) (n c : Nat) (R : Int) (r : Nat) (xs : List Nat) (w : World) (hR : R = r) (hr : r ≤ 1) (hx : IsN w A n xs) (hm : n ≤ 1000000000) :
    Calls Tryd.prog 32 #[.slice A n c, .int .i64 R] w fun e w' => ∃ A' c', e = .returned (.slice A' n c') ∧ OwnN w' w.heap.size A' n c' xs ∧ Below w.heap.size w w' ∧ (0 < n → c' = n + r) := by
  have hl := hx.len
  by_cases hn : n = 0
  · subst hn
    obtain rfl : xs = [] := List.eq_nil_of_length_eq_zero hl
    go_enter Tryd.func32, Tryd.ntmps32
    go_wp2
    go_ret
    exact ⟨none, 0, rfl, OwnN.nil _ _, Below.refl _ _, fun h => absurd h (by omega)⟩
  · obtain ⟨i0, hi, hz0, hz1, hz2⟩ := info_parts u32_info
    have hmk : ∀ W : World, (Instr.makeSlice 23 (.int .i64 (n : Int)) (.int .i64 ((n : Int) + (r : Int)))).run Tryd.prog W = .ok (.slice (some ⟨W.heap.size, 0, none⟩) n (n + r)) (W.alloc (.cells (madeCells #[.int .u32 0] (n + r)) 39)) := by
      intro W
      have h := run_make (P := Tryd.prog) W 23 39 i0 (.int .u32 0) Tryd.underlying23 hi hz0 .i64 .i64 (n : Int) ((n : Int) + (r : Int)) (by omega) (by omega) (by rw [hz2]; omega) (by omega)
      rw [hz1] at h
      have e1 : ((n : Int) + (r : Int)).toNat = n + r := by omega
      have e2 : ((n : Int)).toNat = n := by omega
      rw [e1, e2, Nat.mul_one] at h
      exact h
    subst hR
    have Hpos : RowKit.Hid (0 < (xs.map limV).length → (some (⟨w.heap.size, 0, none⟩ : Addr)) = some ⟨w.heap.size, 0, none⟩ ∧ ∃ ad, A = some ad ∧ ∀ j v, (xs.map limV)[j]? = some v →
        (w.alloc (.cells (madeCells #[.int .u32 0] (n + r)) 39)).cell? (ad.add j) = some v) := by
      intro _
      obtain ⟨b, o, rfl, hb, hcell⟩ := hx.2.2 (by omega)
      refine ⟨rfl, _, rfl, fun j v hv => ?_⟩
      obtain ⟨hj, rfl⟩ := map_u32_get hv
      have e : (⟨b, o, none⟩ : Addr).add j = ⟨b, o + j, none⟩ := by unfold Addr.add; split <;> simp_all
      rw [e, World.cell?_alloc_lt _ _ _ hb]
      exact hcell j (by omega)
    have Hg : RowKit.Hid ((w.alloc (.cells (madeCells #[.int .u32 0] (n + r)) 39)).heap[w.heap.size]? = some (.cells (List.replicate (n + r) (Value.int .u32 0)).toArray 39 (0, 0))) := by
      show _ = _
      rw [heap_alloc_new, ← toList_madeCells_one]
    have Hn : RowKit.Hid ((xs.map limV).length = Nat.min n n) := by show _ = _; simp [hl]
    have Hfit : RowKit.Hid (0 + (xs.map limV).length ≤ (List.replicate (n + r) (Value.int .u32 0)).length) := by show _ ≤ _; simp; omega
    have Hb : RowKit.Hid (Below w.heap.size w (w.alloc (.cells (madeCells #[.int .u32 0] (n + r)) 39))) := (Below.refl _ _).alloc (Nat.le_refl _) _
    have hne : ((n : Int) == 0) = false := by simp; omega
    go_enter Tryd.func32, Tryd.ntmps32
    go_wp2_with (with_reducible refine wpList_copy_splice rfl (.tmp 16) (.tmp 17) 23 23 rfl 39 Tryd.underlying23 u32_size (some ⟨w.heap.size, 0, none⟩) A n (n + r) n c rfl rfl w.heap.size 0 (List.replicate (n + r) (Value.int .u32 0)) 39 Hg.out (xs.map limV) Hn.out Hpos.out Hfit.out (oneCell_u32 xs) w.heap.size w Hb.out (Nat.le_refl _) ?_)
    intro w1 hg1 hb1
    go_wp2
    go_ret
    refine ⟨_, _, rfl, ⟨⟨by simp [hl], .inr ⟨w.heap.size, n + r, _, rfl, Nat.le_refl _, hg1.out, by omega, by unfold maxLen; omega, ?_, ?_⟩⟩, hx.small⟩, hb1, fun _ => rfl⟩
    · simp [splice, hl]
    · simp [splice, hl]

end Go.Proofs.YtpkjooiddejgpaaDoor
