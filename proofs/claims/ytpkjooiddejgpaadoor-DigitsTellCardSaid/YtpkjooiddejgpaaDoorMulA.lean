/- What package mul's helpers cut and addRow answer, as contracts over memory: the limbs that count; a row of products with carries laid over a part. Conditions: arguments read as limbs, of at most 10^9 of them; a part that is the row itself begins where the row does. -/
import Derived.Test.YtpkjooiddejgpaaDoorNatK
import Derived.Test.YtpkjooiddejgpaaDoorMulM
namespace Go.Proofs.YtpkjooiddejgpaaDoor
open Go.RowKit Limb
set_option linter.unusedVariables false

set_option maxHeartbeats 400000 in
theorem mulCut_any (A : Option Addr) (n c : Nat) (xs : List Nat) (w : World) (hx : IsN w A n xs) (hc : n ≤ c) (hm : n ≤ 1000000000) :
    Calls Tryd.prog 35 #[.slice A n c] w fun e w' => e = .returned (.slice A (trim xs).length c) ∧ w = w' := by
  have hlt := trim_len_le xs
  have hl := hx.len
  have hcount : (blen (val xs) + 31) / 32 = (trim xs).length := by rw [blen_count, trim_eq_limbs hx.small]
  have hb : blen (val xs) ≤ 32 * n := by
    have := val_lt hx.small
    rw [pow32, hl] at this
    exact blen_le this
  obtain ⟨m, hm2⟩ : ∃ m, m = (trim xs).length := ⟨_, rfl⟩
  rw [← hm2] at hcount hlt ⊢
  obtain ⟨b, hb2⟩ : ∃ b, b = blen (val xs) := ⟨_, rfl⟩
  have Hb2 := Lib.hid hb2
  rw [← hb2] at hcount hb
  have e1 : ((b : Int) + 32 - 1) / 32 = (m : Int) := by omega
  clear hm2 hb2 hcount
  go_enter Tryd.func35, Tryd.ntmps35
  go_wp2_with fail
  refine (bits_any A n c xs w hx hc hm).mono ?_
  rintro e w1 ⟨rfl, rfl⟩
  rw [← Hb2.out]
  go_wp2
  go_ret
  refine ⟨?_, rfl⟩
  first | rfl | (congr 2; omega)

/-- All blocks but one are as they were. -/
def Others (g : Nat) (w w' : World) : Prop := ∀ k, k ≠ g → w'.heap[k]? = w.heap[k]?
theorem Others.refl (g : Nat) (w : World) : Others g w w := fun _ _ => rfl
theorem Others.setCell {g : Nat} {a w : World} (h : Others g a w) (k : Nat) (u : Value) : Others g a (w.setCell ⟨g, k, none⟩ u) := fun j hj => (Below.heap_setCell w _ u j hj).trans (h j hj)

theorem cell_setCell_ne {a b : Addr} (w : World) (v : Value) (h : a ≠ b) : (w.setCell a v).cell? b = w.cell? b := World.cell?_setCell_other (w := w) (a := a) (b := b) (v := v) h

theorem OwnN.others {w w' : World} {B g : Nat} {A : Option Addr} {n c : Nat} {zs : List Nat} (h : OwnN w B A n c zs) (ho : Others g w w') (hA : ∀ b o s, A = some ⟨b, o, s⟩ → b ≠ g) : OwnN w' B A n c zs := by
  refine ⟨⟨h.1.1, ?_⟩, h.2⟩
  rcases h.1.2 with h2 | ⟨k, cap, cur, hv, hg, hh, r⟩
  · exact .inl h2
  · refine .inr ⟨k, cap, cur, hv, hg, ?_, r⟩
    rw [ho k ?_]
    · exact hh
    · injection hv with hA2
      exact hA _ _ _ hA2

set_option maxHeartbeats 1000000 in
theorem addRow_any (w0 w : World) (hb : Below w0.heap.size w0 w) (g m cs : Nat) (zs : List Nat) (how : OwnN w w0.heap.size (some ⟨g, 0, none⟩) (m + 1) cs zs)
    (Ap : Option Addr) (np cp : Nat) (ps : List Nat) (hp : IsN w Ap np ps) (hpm : m ≤ np) (hdis : ∀ b o, Ap = some ⟨b, o, none⟩ → b = g → o = 0)
    (A : Option Addr) (c : Nat) (xs : List Nat) (hx : IsN w0 A m xs) (v : Nat) (hv : v < 4294967296) (hm : m ≤ 1000000000) :
    Calls Tryd.prog 36 #[.slice (some ⟨g, 0, none⟩) (m + 1) cs, .slice Ap np cp, .slice A m c, .int .u32 (v : Int)] w fun e w' => e = .returned (.tuple #[]) ∧
      (∃ zs', OwnN w' w0.heap.size (some ⟨g, 0, none⟩) (m + 1) cs zs' ∧ val zs' = val (ps.take m) + v * val xs) ∧ Below w0.heap.size w0 w' ∧ Others g w w' := by
  have hBg : w0.heap.size ≤ g := by
    obtain ⟨g', e, h1, _⟩ := how.addr (by omega)
    injection e with e; injection e with e; subst e; exact h1
  have hps : ∀ j, 0 ≤ j → j < m → ∃ b o, Ap = some ⟨b, o, none⟩ ∧ w.cell? ⟨b, o + j, none⟩ = some (.int .u32 ((lim ps j : Nat) : Int)) := by
    intro j _ hj
    obtain ⟨b, o, e, _, hc⟩ := hp.2.2 (by omega)
    exact ⟨b, o, e, hc j (by omega)⟩
  have hsp := hp.small
  have hsx := hx.small
  have Hpl := Lib.hid hp.len
  have Hxl := Lib.hid hx.len
  have Hps := Lib.hid hps
  have Hdis := Lib.hid hdis
  have Hzl := Lib.hid how.len
  clear hps hdis hp
  go_enter Tryd.func36, Tryd.ntmps36
  go_wp2
  go_loopw [13, 8] (fun i cy wr => ∃ (k cr : Nat) (zs : List Nat), k ≤ m ∧ i = .int .i64 (k : Int) ∧ cy = .int .u64 (cr : Int) ∧ RowInv xs ps zs v k cr ∧ OwnN wr w0.heap.size (some ⟨g, 0, none⟩) (m + 1) cs zs ∧ Below w0.heap.size w0 wr ∧ Others g w wr ∧
    RowKit.Hid (∀ j, k ≤ j → j < m → ∃ b o, Ap = some ⟨b, o, none⟩ ∧ wr.cell? ⟨b, o + j, none⟩ = some (.int .u32 ((lim ps j : Nat) : Int)))) (fun i _ _ => m - (intOf i).toNat)
  case atStart => exact ⟨0, 0, zs, Nat.zero_le _, rfl, rfl, RowInv.start _ _ _ _, how, hb, Others.refl _ _, Hps⟩
  case round =>
    clear how hb Hps Hzl
    obtain ⟨k, cr, zs, hk, rfl, rfl, hinv, how, hbe, hoth, Hps⟩ := hrel
    have hcr := hinv.2
    have Hinv := Lib.hid hinv
    have Hzl := Lib.hid how.len
    have Hoth := Lib.hid hoth
    clear hinv hoth
    by_cases hkm : k < m
    · obtain ⟨b1, o1, rfl, hb1, hc1⟩ := hx.2.2 (by omega)
      have h1 : wr.cell? ⟨b1, o1 + k, none⟩ = some (.int .u32 ((lim xs k : Nat) : Int)) := (hbe.cell (p := ⟨b1, o1 + k, none⟩) hb1).trans (hc1 k hkm)
      obtain ⟨b2, o2, rfl, h2⟩ := Hps.out k (Nat.le_refl _) hkm
      have h3 := how.cell (k := k) (by omega)
      have h4 := how.1.frozenAt k
      have l1 := lim_lt hsx k
      have l2 := lim_lt hsp k
      have hq := limb_prod l1 hv
      have hq1 : ((lim xs k : Nat) : Int) * (v : Int) ≤ 18446744065119617025 := by
        have : ((lim xs k * v : Nat) : Int) ≤ 18446744065119617025 := by omega
        rwa [Int.natCast_mul] at this
      have hq0 : 0 ≤ ((lim xs k : Nat) : Int) * (v : Int) := by
        have : 0 ≤ ((lim xs k * v : Nat) : Int) := by omega
        rwa [Int.natCast_mul] at this
      obtain ⟨lo, hlo⟩ : ∃ lo, lo = (cr + lim xs k * v + lim ps k) % 4294967296 := ⟨_, rfl⟩
      obtain ⟨hi, hhi⟩ : ∃ hi, hi = (cr + lim xs k * v + lim ps k) / 4294967296 := ⟨_, rfl⟩
      have eI : ((lim xs k * v : Nat) : Int) = ((lim xs k : Nat) : Int) * (v : Int) := Int.natCast_mul _ _
      have hlo2 : lo < 4294967296 := by omega
      have hsum : lo + hi * 4294967296 = cr + lim xs k * v + lim ps k := by omega
      have elo : ((cr : Int) + (((lim xs k : Nat) : Int) * (v : Int) + ((lim ps k : Nat) : Int))) % 4294967296 = (lo : Int) := by omega
      have ehi : ((cr : Int) + (((lim xs k : Nat) : Int) * (v : Int) + ((lim ps k : Nat) : Int))) / 4294967296 = (hi : Int) := by omega
      have Hst : RowKit.Hid (RowInv xs ps (zs.set k lo) v (k + 1) hi) := Hinv.out.step (by have := Hzl.out; omega) hsx hsp hv hlo2 hsum
      have Hset : RowKit.Hid (OwnN (wr.setCell ⟨g, k, none⟩ (.int .u32 (lo : Int))) w0.heap.size (some ⟨g, 0, none⟩) (m + 1) cs (zs.set k lo)) := how.set k hlo2
      have Hbe : RowKit.Hid (Below w0.heap.size w0 (wr.setCell ⟨g, k, none⟩ (.int .u32 (lo : Int)))) := hbe.setCell (by exact hBg) _
      have Ho2 : RowKit.Hid (Others g w (wr.setCell ⟨g, k, none⟩ (.int .u32 (lo : Int)))) := Hoth.out.setCell k _
      have Hps2 : RowKit.Hid (∀ j, k + 1 ≤ j → j < m → ∃ b o, (some (⟨b2, o2, none⟩ : Addr)) = some ⟨b, o, none⟩ ∧ (wr.setCell ⟨g, k, none⟩ (.int .u32 (lo : Int))).cell? ⟨b, o + j, none⟩ = some (.int .u32 ((lim ps j : Nat) : Int))) := by
        intro j h5 h6
        obtain ⟨b, o, e, hc⟩ := Hps.out j (by omega) h6
        refine ⟨b, o, e, (cell_setCell_ne _ _ ?_).trans hc⟩
        intro e2
        injection e2 with e3 e4
        have := Hdis.out b o e e3.symm
        omega
      clear hq hlo hhi hsum
      clear eI
      go_wp2
      go_roundw
      case rel => exact ⟨k + 1, hi, zs.set k lo, by omega, by go_num, rfl, Hst.out, Hset.out, Hbe.out, Ho2.out, Hps2⟩
      case measure => simp [intOf]; omega
    · obtain rfl : k = m := by omega
      have h3 := how.cell (k := k) (by omega)
      have h4 := how.1.frozenAt k
      have Hset : RowKit.Hid (OwnN (wr.setCell ⟨g, k, none⟩ (.int .u32 (cr : Int))) w0.heap.size (some ⟨g, 0, none⟩) (k + 1) cs (zs.set k cr)) := how.set k hcr
      have Hbe : RowKit.Hid (Below w0.heap.size w0 (wr.setCell ⟨g, k, none⟩ (.int .u32 (cr : Int)))) := hbe.setCell (by exact hBg) _
      have Ho2 : RowKit.Hid (Others g w (wr.setCell ⟨g, k, none⟩ (.int .u32 (cr : Int)))) := Hoth.out.setCell k _
      have Hd : RowKit.Hid (val (zs.set k cr) = val (ps.take k) + v * val xs) := Hinv.out.done Hzl.out Hxl.out
      go_wp2
      first | go_end0 | refine bodyPost_ret (results_none rfl _ _ _) rfl ?_
      exact ⟨rfl, ⟨_, Hset.out, Hd.out⟩, Hbe.out, Ho2.out⟩

end Go.Proofs.YtpkjooiddejgpaaDoor
