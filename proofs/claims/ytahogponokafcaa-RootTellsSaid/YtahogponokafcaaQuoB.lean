/- What package quo's lessen and raise answer, as contracts over memory: a multiple of a row is taken from another one, a row is paid back. Conditions: the row that is written is the call's own, one limb longer than the other; at most 10^9 limbs. -/
import Derived.Test.YtahogponokafcaaQuoA
import Derived.Test.YtahogponokafcaaMulA
namespace Go.Proofs.Ytahogponokafcaa
open Go.RowKit Limb
set_option linter.unusedVariables false

set_option maxHeartbeats 1000000 in
theorem lessen_any (w0 w : World) (hb : Below w0.heap.size w0 w) (g m cs : Nat) (rs : List Nat) (how : OwnN w w0.heap.size (some ⟨g, 0, none⟩) (m + 1) cs rs)
    (A : Option Addr) (c : Nat) (bs : List Nat) (hx : IsN w0 A m bs) (v : Nat) (V : Int) (hV : V = v) (hv : v < 4294967296) (hm : m ≤ 1000000000) (t : Bool) (ht : decide (val rs < v * val bs) = t) :
    Calls Try.prog 50 #[.slice (some ⟨g, 0, none⟩) (m + 1) cs, .slice A m c, .int .u32 V] w fun e w' => e = .returned (.bool t) ∧
      (∃ zs tt, OwnN w' w0.heap.size (some ⟨g, 0, none⟩) (m + 1) cs zs ∧ val (zs.take m) + v * val bs = val (rs.take m) + tt * 4294967296 ^ m) ∧ Below w0.heap.size w0 w' ∧ Others g w w' := by
  subst hV
  have hBg : w0.heap.size ≤ g := by
    obtain ⟨g', e, h1, _⟩ := how.addr (by omega)
    injection e with e; injection e with e; subst e; exact h1
  have hsr := how.small
  have hsx := hx.small
  have Hxl := Lib.hid hx.len
  have Hrl := Lib.hid how.len
  have Ht := Lib.hid ht
  have Hi0 := Lib.hid (LessInv.start rs bs v)
  have How := Lib.hid how
  have Hb := Lib.hid hb
  clear ht how hb
  go_enter Try.func50, Try.ntmps50
  go_wp2
  go_loopw [13, 7, 8] (fun i cy bo wr => ∃ (k cr br : Nat) (zs : List Nat), k ≤ m ∧ i = .int .i64 (k : Int) ∧ cy = .int .u64 (cr : Int) ∧ bo = .int .u32 (br : Int) ∧ RowKit.Hid (LessInv rs bs zs v k cr br) ∧ RowKit.Hid (OwnN wr w0.heap.size (some ⟨g, 0, none⟩) (m + 1) cs zs) ∧ RowKit.Hid (Below w0.heap.size w0 wr) ∧ RowKit.Hid (Others g w wr)) (fun i _ _ _ => m - (intOf i).toNat)
  case atStart => exact ⟨0, 0, 0, rs, Nat.zero_le _, rfl, rfl, rfl, Hi0, How, Hb, Others.refl _ _⟩
  case round =>
    clear How Hb Hi0
    obtain ⟨k, cr, br, zs, hk, rfl, rfl, rfl, Hinv, How, Hb, Ho⟩ := hrel
    have hcr := Hinv.out.2.2.2.1
    have hbr := Hinv.out.2.2.2.2
    by_cases hkm : k < m
    · obtain ⟨b1, o1, rfl, hb1, hc1⟩ := hx.2.2 (by omega)
      have h1 : wr.cell? ⟨b1, o1 + k, none⟩ = some (.int .u32 ((lim bs k : Nat) : Int)) := (Hb.out.cell (p := ⟨b1, o1 + k, none⟩) hb1).trans (hc1 k hkm)
      have h3 := How.out.cell (k := k) (by omega)
      have h4 := How.out.1.frozenAt k
      have l1 := lim_lt hsx k
      have l2 := lim_lt How.out.small k
      have hq := limb_prod l1 hv
      have hq1 : ((lim bs k : Nat) : Int) * (v : Int) ≤ 18446744065119617025 := by
        have : ((lim bs k * v : Nat) : Int) ≤ 18446744065119617025 := by omega
        rwa [Int.natCast_mul] at this
      have hq0 : 0 ≤ ((lim bs k : Nat) : Int) * (v : Int) := by
        have : 0 ≤ ((lim bs k * v : Nat) : Int) := by omega
        rwa [Int.natCast_mul] at this
      obtain ⟨lo, hlo⟩ : ∃ lo, lo = (cr + lim bs k * v) % 4294967296 := ⟨_, rfl⟩
      obtain ⟨hi, hhi⟩ : ∃ hi, hi = (cr + lim bs k * v) / 4294967296 := ⟨_, rfl⟩
      have eI : ((lim bs k * v : Nat) : Int) = ((lim bs k : Nat) : Int) * (v : Int) := Int.natCast_mul _ _
      have hlo2 : lo < 4294967296 := by omega
      have hsum : cr + lim bs k * v = lo + hi * 4294967296 := by omega
      have elo : ((cr : Int) + ((lim bs k : Nat) : Int) * (v : Int)) % 4294967296 = (lo : Int) := by omega
      have ehi : ((cr : Int) + ((lim bs k : Nat) : Int) * (v : Int)) / 4294967296 = (hi : Int) := by omega
      have hdl := diffLo_lt (lim zs k) lo br
      have Hst := Lib.hid (Hinv.out.step hsr (by have := Hrl.out; omega) hsx hv hlo2 hsum)
      have Hset := Lib.hid (How.out.set k hdl)
      have Hb2 : RowKit.Hid (Below w0.heap.size w0 (wr.setCell ⟨g, k, none⟩ (.int .u32 ((diffLo (lim zs k) lo br : Nat) : Int)))) := Hb.out.setCell (by exact hBg) _
      have Ho2 : RowKit.Hid (Others g w (wr.setCell ⟨g, k, none⟩ (.int .u32 ((diffLo (lim zs k) lo br : Nat) : Int)))) := Ho.out.setCell k _
      clear hq hlo hhi hsum eI
      go_wp2_with (go_at_call 52; (with_reducible refine (sub32_nat (lim zs k) lo br _ l2 hlo2 hbr).mono ?_); rintro e w2 ⟨rfl, rfl⟩)
      go_roundw
      case rel => exact ⟨k + 1, hi, _, _, by omega, by go_num, rfl, rfl, Hst, Hset, Hb2, Ho2⟩
      case measure => simp [intOf]; omega
    · obtain rfl : k = m := by omega
      have h3 := How.out.cell (k := k) (by omega)
      have hv0 := Hinv.out.2.1
      have hl0 := Hinv.out.2.2.1 k (Nat.le_refl _)
      have hbt : bs.take k = bs := List.take_of_length_le (by rw [Hxl.out]; exact Nat.le_refl _)
      rw [hbt] at hv0
      have hzt := val_lt (small_take How.out.small k)
      rw [List.length_take, How.out.len, Nat.min_eq_left (by omega)] at hzt
      have hR : val rs = val (rs.take k) + 4294967296 ^ k * lim rs k := by
        have := val_take_lim rs k
        rwa [List.take_of_length_le (by rw [Hrl.out]; exact Nat.le_refl _)] at this
      have Htop := Lib.hid (less_top hv0 hzt hR)
      have Hv0 := Lib.hid hv0
      have l2 := lim_lt How.out.small k
      rw [← hl0] at Htop
      clear hv0 hl0 hbt hzt hR Hinv
      by_cases hlt : lim zs k < cr + br
      · have Ht2 : RowKit.Hid (t = true) := by show _ = _; rw [← Ht.out]; simpa using Htop.out.2 hlt
        have hd : decide (((lim zs k : Nat) : Int) < (cr : Int) + (br : Int)) = true := by simp; omega
        go_wp2
        go_ret
        exact ⟨ret_bool Ht2.out.symm, ⟨zs, _, How.out, Hv0.out⟩, Hb.out, Ho.out⟩
      · have Ht2 : RowKit.Hid (t = false) := by show _ = _; rw [← Ht.out]; simpa using fun h => hlt (Htop.out.1 h)
        have hd : decide (((lim zs k : Nat) : Int) < (cr : Int) + (br : Int)) = false := by simp; omega
        go_wp2
        go_ret
        exact ⟨ret_bool Ht2.out.symm, ⟨zs, _, How.out, Hv0.out⟩, Hb.out, Ho.out⟩

set_option maxHeartbeats 1000000 in
theorem raise_any (w0 w : World) (hb : Below w0.heap.size w0 w) (g m cs : Nat) (rs : List Nat) (how : OwnN w w0.heap.size (some ⟨g, 0, none⟩) (m + 1) cs rs)
    (A : Option Addr) (c : Nat) (bs : List Nat) (hx : IsN w0 A m bs) (hm : m ≤ 1000000000) :
    Calls Try.prog 51 #[.slice (some ⟨g, 0, none⟩) (m + 1) cs, .slice A m c] w fun e w' => e = .returned (.tuple #[]) ∧
      (∃ zs cc, OwnN w' w0.heap.size (some ⟨g, 0, none⟩) (m + 1) cs zs ∧ val (zs.take m) + cc * 4294967296 ^ m = val (rs.take m) + val bs) ∧ Below w0.heap.size w0 w' ∧ Others g w w' := by
  have hBg : w0.heap.size ≤ g := by
    obtain ⟨g', e, h1, _⟩ := how.addr (by omega)
    injection e with e; injection e with e; subst e; exact h1
  have hsr := how.small
  have hsx := hx.small
  have Hxl := Lib.hid hx.len
  have Hrl := Lib.hid how.len
  have Hi0 := Lib.hid (AddInv.start rs bs)
  have How := Lib.hid how
  have Hb := Lib.hid hb
  clear how hb
  go_enter Try.func51, Try.ntmps51
  go_wp2
  go_loopw [9, 4] (fun i cy wr => ∃ (k cr : Nat) (zs : List Nat), k ≤ m ∧ i = .int .i64 (k : Int) ∧ cy = .int .u32 (cr : Int) ∧ RowKit.Hid (AddInv rs bs zs k cr) ∧ RowKit.Hid (OwnN wr w0.heap.size (some ⟨g, 0, none⟩) (m + 1) cs zs) ∧ RowKit.Hid (Below w0.heap.size w0 wr) ∧ RowKit.Hid (Others g w wr)) (fun i _ _ => m - (intOf i).toNat)
  case atStart => exact ⟨0, 0, rs, Nat.zero_le _, rfl, rfl, Hi0, How, Hb, Others.refl _ _⟩
  case round =>
    clear How Hb Hi0
    obtain ⟨k, cr, zs, hk, rfl, rfl, Hinv, How, Hb, Ho⟩ := hrel
    have hcr := Hinv.out.2.2.2
    by_cases hkm : k < m
    · obtain ⟨b1, o1, rfl, hb1, hc1⟩ := hx.2.2 (by omega)
      have h1 : wr.cell? ⟨b1, o1 + k, none⟩ = some (.int .u32 ((lim bs k : Nat) : Int)) := (Hb.out.cell (p := ⟨b1, o1 + k, none⟩) hb1).trans (hc1 k hkm)
      have h3 := How.out.cell (k := k) (by omega)
      have h4 := How.out.1.frozenAt k
      have l1 := lim_lt hsx k
      have l2 := lim_lt How.out.small k
      have hdl := sumLo_lt (lim zs k) (lim bs k) cr
      have Hst := Lib.hid (Hinv.out.step hsr hsx (by have := Hrl.out; omega))
      have Hset := Lib.hid (How.out.set k hdl)
      have Hb2 : RowKit.Hid (Below w0.heap.size w0 (wr.setCell ⟨g, k, none⟩ (.int .u32 ((sumLo (lim zs k) (lim bs k) cr : Nat) : Int)))) := Hb.out.setCell (by exact hBg) _
      have Ho2 : RowKit.Hid (Others g w (wr.setCell ⟨g, k, none⟩ (.int .u32 ((sumLo (lim zs k) (lim bs k) cr : Nat) : Int)))) := Ho.out.setCell k _
      go_wp2_with (go_at_call 31; (with_reducible refine (add32_nat (lim zs k) (lim bs k) cr _ l2 l1 hcr).mono ?_); rintro e w2 ⟨rfl, rfl⟩)
      go_roundw
      case rel => exact ⟨k + 1, _, _, by omega, by go_num, rfl, Hst, Hset, Hb2, Ho2⟩
      case measure => simp [intOf]; omega
    · obtain rfl : k = m := by omega
      have hv0 := Hinv.out.2.1
      have hbt : bs.take k = bs := List.take_of_length_le (by rw [Hxl.out]; exact Nat.le_refl _)
      rw [hbt] at hv0
      have Hv0 := Lib.hid hv0
      clear hv0 hbt Hinv
      go_wp2
      first | go_end0 | refine bodyPost_ret (results_none rfl _ _ _) rfl ?_
      exact ⟨rfl, ⟨zs, _, How.out, Hv0.out⟩, Hb.out, Ho.out⟩

end Go.Proofs.Ytahogponokafcaa
