/- What the statements' keep.Nat, keep.OwnNat, Long and package nat's Trim, Of and Cmp answer, as contracts over memory. Conditions: arguments read as limbs, of at most 10^9 of them. -/
import Derived.Test.YtpkjooiddejgpaaDoorNatA
import Derived.Test.YtpkjooiddejgpaaDoorNatB
namespace Go.Proofs.YtpkjooiddejgpaaDoor
open Go.RowKit Limb
set_option linter.unusedVariables false

theorem below_drewN {B : Nat} {a w : World} (h : Below B a w) (n : Nat) : Below B a (w.drewN n) := ⟨h.os, h.tape, h.output, h.size, h.block⟩

theorem lim_ext {xs ys : List Nat} (hl : xs.length = ys.length) (h : ∀ j, j < xs.length → lim xs j = lim ys j) : xs = ys := by
  refine List.ext_getElem hl fun j h1 h2 => ?_
  have := h j h1
  simpa [lim, List.getD_eq_getElem?_getD, List.getElem?_eq_getElem h1, List.getElem?_eq_getElem h2] using this

/-- Are two lists one? Under a name that no simp set opens. -/
def same (xs ys : List Nat) : Bool := decide (xs = ys)

theorem same_false_of_len {xs ys : List Nat} (h : xs.length ≠ ys.length) : same xs ys = false := by
  unfold same; rw [decide_eq_false_iff_not]; rintro rfl; exact h rfl
theorem same_false_of_lim {xs ys : List Nat} {j : Nat} (h : lim xs j ≠ lim ys j) : same xs ys = false := by
  unfold same; rw [decide_eq_false_iff_not]; rintro rfl; exact h rfl
theorem same_true {xs ys : List Nat} (hl : xs.length = ys.length) (h : ∀ j, j < xs.length → lim xs j = lim ys j) : same xs ys = true := by
  unfold same; rw [decide_eq_true_eq]; exact lim_ext hl h

set_option maxHeartbeats 400000 in
theorem keepNat_any (A : Option Addr) (n c : Nat) (xs : List Nat) (A' : Option Addr) (n' c' : Nat) (ys : List Nat) (w : World) (hx : IsN w A n xs) (hy : IsN w A' n' ys) (hm : n ≤ 1000000000) (hm' : n' ≤ 1000000000) :
    Calls Tryd.prog 12 #[.slice A n c, .slice A' n' c'] w fun e w' => e = .returned (.bool (same xs ys)) ∧ Below w.heap.size w w' := by
  have hl := hx.len
  have hl' := hy.len
  by_cases hn : n = n'
  · subst hn
    have hne : ((n : Int) != (n : Int)) = false := by simp
    go_enter Tryd.func12, Tryd.ntmps12
    go_wp2
    go_loopw [5] (fun i wr => ∃ k : Nat, k ≤ n ∧ i = .int .i64 k ∧ (∀ j, j < k → lim xs j = lim ys j) ∧ Below w.heap.size w wr) (fun i _ => n - (intOf i).toNat)
    case atStart => exact ⟨0, Nat.zero_le _, rfl, fun j hj => absurd hj (by omega), Below.refl _ _⟩
    case round =>
      obtain ⟨k, hk, rfl, heq, hbel⟩ := hrel
      have Heq := Lib.hid heq
      clear heq
      by_cases hkn : k < n
      · obtain ⟨b, o, hA, hb, hcell⟩ := hx.2.2 (by omega)
        obtain ⟨b', o', hA', hb', hcell'⟩ := hy.2.2 (by omega)
        have h1 : wr.cell? ⟨b, o + k, none⟩ = some (.int .u32 ((lim xs k : Nat) : Int)) := (hbel.cell (p := ⟨b, o + k, none⟩) hb).trans (hcell k hkn)
        have h2 : wr.cell? ⟨b', o' + k, none⟩ = some (.int .u32 ((lim ys k : Nat) : Int)) := (hbel.cell (p := ⟨b', o' + k, none⟩) hb').trans (hcell' k hkn)
        subst hA
        subst hA'
        by_cases hq : lim xs k = lim ys k
        · have hq' : (((lim xs k : Nat) : Int) != ((lim ys k : Nat) : Int)) = false := by simp [hq]
          have Hq := Lib.hid hq
          clear hq
          go_wp2
          go_quiet (fail)
          go_wp2
          go_roundw
          case rel => exact ⟨k + 1, by omega, by go_num, fun j hj => by
            rcases Nat.lt_or_ge j k with h | h
            · exact Heq.out j h
            · have : j = k := by omega
              subst this; exact Hq.out, below_drewN hbel _⟩
          case measure => simp [intOf]; omega
        · have hq' : (((lim xs k : Nat) : Int) != ((lim ys k : Nat) : Int)) = true := by simp; omega
          have Hq := Lib.hid (same_false_of_lim hq)
          clear hq
          go_wp2
          go_quiet (fail)
          go_wp2
          go_ret
          exact ⟨by rw [Hq.out]; rfl, below_drewN hbel _⟩
      · have hkn : k = n := by omega
        subst hkn
        have Hs := Lib.hid (same_true (by omega) (fun j hj => Heq.out j (by omega)))
        go_wp2
        go_ret
        exact ⟨by rw [Hs.out]; rfl, hbel⟩
  · have hne : ((n : Int) != (n' : Int)) = true := by simp; omega
    have Hs := Lib.hid (same_false_of_len (xs := xs) (ys := ys) (by omega))
    go_enter Tryd.func12, Tryd.ntmps12
    go_wp2
    go_ret
    exact ⟨by rw [Hs.out]; rfl, Below.refl _ _⟩

/-- Is a list too long for a statement? -/
def tooLong (n : Nat) : Bool := decide (300 < n)

theorem trim_any (A : Option Addr) (n c : Nat) (xs : List Nat) (w : World) (hx : IsN w A n xs) (hc : n ≤ c) (hm : n ≤ 1000000000) :
    Calls Tryd.prog 16 #[.slice A n c] w fun e w' => ∃ A' n' c', e = .returned (.slice A' n' c') ∧ OwnN w' w.heap.size A' n' c' (trim xs) ∧ Below w.heap.size w w' := by
  have hlt := trim_len_le xs
  have hl := hx.len
  have hx' := IsN.take hx (m := (trim xs).length) (by omega)
  rw [← trim_take xs] at hx'
  have Hl := Lib.hid hl
  clear hl
  go_enter Tryd.func16, Tryd.ntmps16
  go_wp2_with fail
  refine (cut_any A n c xs w hx hc (by unfold maxLen; omega)).mono ?_
  rintro e w1 ⟨rfl, rfl⟩
  go_wp2_with fail
  refine (copied_any A (trim xs).length c 0 0 (trim xs) w rfl (by omega) hx' (by have := Hl.out; omega)).mono ?_
  rintro e w1 ⟨A', c', rfl, hown, hbel, _⟩
  go_wp2
  go_ret
  exact ⟨_, _, _, rfl, hown, hbel⟩

theorem isN_lit (w : World) (zs : List Nat) (h : Small zs) : IsN (w.alloc (.cells (zs.map limV).toArray 39)) (some ⟨w.heap.size, 0, none⟩) zs.length zs := by
  refine ⟨rfl, h, fun hn => ⟨w.heap.size, 0, rfl, by simp, fun j hj => ?_⟩⟩
  rw [Nat.zero_add, World.cell?_alloc_at _ _ _ _ rfl]
  simp [lim, limV, List.getElem?_eq_getElem hj]

theorem OwnN.mono {w : World} {B B' : Nat} {A : Option Addr} {n c : Nat} {zs : List Nat} (h : OwnN w B A n c zs) (hB : B' ≤ B) : OwnN w B' A n c zs := by
  refine ⟨⟨h.1.1, ?_⟩, h.2⟩
  rcases h.1.2 with h2 | ⟨g, cap, cur, hv, hg, r⟩
  · exact .inl h2
  · exact .inr ⟨g, cap, cur, hv, Nat.le_trans hB hg, r⟩

theorem of_any (v : Int) (w : World) (h0 : 0 ≤ v) (h1 : v < 18446744073709551616) :
    Calls Tryd.prog 19 #[.int .u64 v] w fun e w' => ∃ A' n' c', e = .returned (.slice A' n' c') ∧ OwnN w' w.heap.size A' n' c' (limbs v.toNat) ∧ Below w.heap.size w w' := by
  go_enter Tryd.func19, Tryd.ntmps19
  go_wp2_with fail
  obtain ⟨v, rfl⟩ := Int.eq_ofNat_of_zero_le h0
  have e : (#[Value.int IntKind.u32 ((v : Int) % 4294967296), Value.int IntKind.u32 ((v : Int) / 4294967296)] : Array Value) = ([v % 4294967296, v / 4294967296].map limV).toArray := rfl
  have hs : Small [v % 4294967296, v / 4294967296] := by
    intro x hx
    simp at hx
    omega
  have hv : trim [v % 4294967296, v / 4294967296] = limbs ((v : Int)).toNat := by
    rw [trim_eq_limbs hs]
    congr 1
    simp [val]
    omega
  rw [e]
  refine (trim_any _ 2 2 [v % 4294967296, v / 4294967296] _ (isN_lit w [v % 4294967296, v / 4294967296] hs) (by omega) (by omega)).mono ?_
  rintro e w1 ⟨A', n', c', rfl, hown, hbel⟩
  rw [hv] at hown
  have hb : Below w.heap.size w w1 := ((Below.refl _ _).alloc (Nat.le_refl _) _).trans (hbel.mono (by simp))
  have hown' : OwnN w1 w.heap.size A' n' c' (limbs ((v : Int)).toNat) := hown.mono (by simp)
  clear hown hbel hv
  go_wp2
  go_ret
  exact ⟨_, _, _, rfl, hown', hb⟩

end Go.Proofs.YtpkjooiddejgpaaDoor
