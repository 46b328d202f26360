/- What the reference's Rem of layer 3 comes to, as a contract over memory: quotient and what is left, by bits moved and taken away. Conditions: both lists read as limbs, of at most 10^5 of them. -/
import Derived.Test.YtbenkbgdahcaaaaRefMulB
import Derived.Test.YtbenkbgdahcaaaaRefB
import Derived.Laws.Rows
namespace Go.Proofs.Ytbenkbgdahcaaaa.Limb

theorem val_set_add {zs : List Nat} {q d : Nat} (hq : q < zs.length) : val (zs.set q (lim zs q + d)) = val zs + 4294967296 ^ q * d := by
  rw [val_split (zs.set q (lim zs q + d)) (q + 1) (by simp; omega), drop_succ_set, val_take_set hq, val_split zs (q + 1) (by omega), val_take_lim, Nat.mul_add]
  omega

theorem low_bit {V i : Nat} (h : V % 2 ^ (i + 1) = 0) : (V / 4294967296 ^ (i / 32) % 4294967296) ||| 2 ^ (i % 32) = V / 4294967296 ^ (i / 32) % 4294967296 + 2 ^ (i % 32) := by
  obtain ⟨c, rfl⟩ := Nat.dvd_of_mod_eq_zero h
  have e1 : 2 ^ (i + 1) = 2 ^ (32 * (i / 32)) * 2 ^ (i % 32 + 1) := by rw [← Nat.pow_add]; congr 1; omega
  have hk : i % 32 < 32 := Nat.mod_lt _ (by decide)
  have e2 : (4294967296 : Nat) = 2 ^ (i % 32 + 1) * 2 ^ (31 - i % 32) := by rw [← Nat.pow_add, show i % 32 + 1 + (31 - i % 32) = 32 by omega]
  have e3 : 2 ^ (i + 1) * c / 4294967296 ^ (i / 32) = 2 ^ (i % 32 + 1) * c := by
    rw [pow32, e1, Nat.mul_assoc, Nat.mul_div_cancel_left _ (Nat.two_pow_pos _)]
  have e4 : 2 ^ (i % 32 + 1) * c % 4294967296 = 2 ^ (i % 32 + 1) * (c % 2 ^ (31 - i % 32)) := by
    rw [show 2 ^ (i % 32 + 1) * c % 4294967296 = 2 ^ (i % 32 + 1) * c % (2 ^ (i % 32 + 1) * 2 ^ (31 - i % 32)) by rw [← e2], Nat.mul_mod_mul_left]
  rw [e3, e4]
  exact (Nat.two_pow_add_eq_or_of_lt (Nat.pow_lt_pow_right (by decide) (Nat.lt_succ_self _)) _).symm

/-- A quotient that is made bit by bit: what is left, and the bits set so far, all from j on. -/
def QInv (a b : Nat) (zs : List Nat) (left j : Nat) : Prop := a = left + b * val zs ∧ left < b * 2 ^ j ∧ val zs % 2 ^ j = 0

theorem QInv.start {a b n : Nat} (k : Nat) (hb : b ≠ 0) (h : blen a ≤ blen b + n) : QInv a b (List.replicate k 0) a (n + 1) := by
  have e0 : val (List.replicate k 0) = 0 := val_zero fun j => by simp [lim, List.getD_eq_getElem?_getD, List.getElem?_replicate]; split <;> rfl
  refine ⟨by rw [e0]; rfl, ?_, by rw [e0, Nat.zero_mod]⟩
  obtain ⟨h1, h2, h3⟩ := blen_spec hb
  have h4 : a < 2 ^ (blen b + n) := Nat.lt_of_lt_of_le (blen_lt a) (Nat.pow_le_pow_right (by decide) h)
  have h5 : 2 ^ (blen b + n) = 2 ^ (blen b - 1) * 2 ^ (n + 1) := by rw [← Nat.pow_add]; congr 1; omega
  rw [h5] at h4
  exact Nat.lt_of_lt_of_le h4 (Nat.mul_le_mul_right _ h1)

theorem mod_low {V j : Nat} (h : V % 2 ^ (j + 1) = 0) : V % 2 ^ j = 0 :=
  Nat.mod_eq_zero_of_dvd (Nat.dvd_trans ⟨2, by rw [Nat.pow_succ]⟩ (Nat.dvd_of_mod_eq_zero h))

theorem QInv.yes {a b left j : Nat} {zs : List Nat} (h : QInv a b zs left (j + 1)) (hz : Small zs) (hle : b * 2 ^ j ≤ left) (hj : j / 32 < zs.length) : QInv a b (zs.set (j / 32) (lim zs (j / 32) ||| 2 ^ (j % 32))) (left - b * 2 ^ j) j := by
  obtain ⟨h1, h2, h3⟩ := h
  have e : val (zs.set (j / 32) (lim zs (j / 32) ||| 2 ^ (j % 32))) = val zs + 2 ^ j := by
    have h4 := low_bit h3
    rw [lim_eq_div zs hz] at h4
    rw [h4, val_set_add hj, pow_move]
  refine ⟨?_, ?_, ?_⟩
  · rw [e, Nat.mul_add, h1]; omega
  · rw [Nat.pow_succ, ← Nat.mul_assoc] at h2; omega
  · rw [e, Nat.add_mod_right]; exact mod_low h3
theorem QInv.no {a b left j : Nat} {zs : List Nat} (h : QInv a b zs left (j + 1)) (hlt : left < b * 2 ^ j) : QInv a b zs left j := ⟨h.1, hlt, mod_low h.2.2⟩
theorem QInv.done {a b left : Nat} {zs : List Nat} (h : QInv a b zs left 0) (hb : b ≠ 0) : val zs = a / b ∧ left = a % b := by
  obtain ⟨h1, h2, _⟩ := h
  rw [Nat.pow_zero, Nat.mul_one] at h2
  refine ⟨?_, ?_⟩
  · rw [h1, Nat.add_mul_div_left _ _ (Nat.pos_of_ne_zero hb), Nat.div_eq_of_lt h2, Nat.zero_add]
  · rw [h1, Nat.add_mul_mod_self_left, Nat.mod_eq_of_lt h2]

theorem bit_small {x k : Nat} (h : x < 4294967296) (hk : k < 32) : x ||| 2 ^ k < 4294967296 :=
  Nat.or_lt_two_pow (n := 32) h (Nat.pow_lt_pow_right (by decide) hk)

/-- The divisor, moved up, at a place. -/
def xAt (b j : Nat) : Nat := b * 2 ^ j / 2
theorem xAt_succ (b j : Nat) : xAt b (j + 1) = b * 2 ^ j := by
  unfold xAt; rw [Nat.pow_succ, ← Nat.mul_assoc, Nat.mul_div_cancel _ (by decide)]

/-- What is left; of a division by nothing: nothing. -/
def remR (a b : Nat) : Nat := if b = 0 then 0 else a % b
theorem remR_pos {a b : Nat} (h : b ≠ 0) : remR a b = a % b := if_neg h
theorem remR_zero {a b : Nat} (h : b = 0) : remR a b = 0 := if_pos h

end Go.Proofs.Ytbenkbgdahcaaaa.Limb
namespace Go.Proofs.Ytbenkbgdahcaaaa
open Go.RowKit Limb
set_option linter.unusedVariables false

theorem got3_size : (Try.prog.info? 30).map (·.size) = some 3 := by kernel_rfl

/-- A result's cells that hold nothing yet. -/
def Blank3 (w : World) (g : Nat) : Prop := w.heap[g]? = some (.cells #[Value.slice none 0 0, Value.slice none 0 0, Value.bool false] 30 (0, 0))
theorem Blank3.below {w w' : World} {g : Nat} (h : Blank3 w g) (hb : Below w.heap.size w w') : Blank3 w' g := by
  have hlt : g < w.heap.size := by
    rcases Nat.lt_or_ge g w.heap.size with hlt | hge
    · exact hlt
    · unfold Blank3 at h; rw [Array.getElem?_eq_none hge] at h; cases h
  exact (hb.block g hlt).trans h

theorem Blank3.cells {w : World} {g : Nat} (h : Blank3 w g) : w.cell? ⟨g, 0, none⟩ = some (.slice none 0 0) ∧ w.cell? ⟨g, 1, none⟩ = some (.slice none 0 0) ∧ w.cell? ⟨g, 2, none⟩ = some (.bool false) := by
  unfold Blank3 at h; simp [World.cell?, h]
theorem Blank3.free {w : World} {g : Nat} (h : Blank3 w g) (k : Nat) : w.frozen? ⟨g, k, none⟩ = false := by unfold Blank3 at h; simp [World.frozen?, h]

/-- What a result's three cells hold behind the stores. -/
def fill3 (w : World) (g : Nat) (u v b : Value) : World := ((w.setCell ⟨g, 0, none⟩ u).setCell ⟨g, 1, none⟩ v).setCell ⟨g, 2, none⟩ b
theorem Blank3.filled {w : World} {g : Nat} (h : Blank3 w g) (u v b : Value) : (fill3 w g u v b).heap[g]? = some (.cells #[u, v, b] 30 (0, 0)) := by
  unfold Blank3 at h
  simp [fill3, World.setCell, Array.getElem?_modify, h]

/-- A slice that lies elsewhere. -/
def Apart (g : Nat) (A : Option Addr) (n : Nat) : Prop := 0 < n → ∀ b o s, A = some ⟨b, o, s⟩ → b ≠ g

theorem Apart.old {w : World} {A : Option Addr} {n c : Nat} {xs : List Nat} {a L g : Nat} (h : NN w A n c xs a L) (hg : w.heap.size ≤ g) : Apart g A n := by
  intro hn b o s e
  obtain ⟨b', o', e', hlt, _⟩ := h.isN.2.2 hn
  rw [e] at e'; injection e' with e'; injection e' with e' _
  omega
theorem Apart.own {w : World} {B : Nat} {A : Option Addr} {n c : Nat} {zs : List Nat} {g : Nat} (h : OwnN w B A n c zs) (hg : g < B) : Apart g A n := by
  intro hn b o s e
  obtain ⟨g', e', hB, _⟩ := h.addr hn
  rw [e] at e'; injection e' with e'; injection e' with e' _
  omega
theorem NN.elsewhere {w : World} {A : Option Addr} {n c : Nat} {xs : List Nat} {a L g : Nat} (h : NN w A n c xs a L) (hg : Apart g A n) (k : Nat) (v : Value) : NN (w.setCell ⟨g, k, none⟩ v) A n c xs a L := by
  refine ⟨⟨h.isN.1, h.isN.2.1, fun hn => ?_⟩, h.val, h.cap, h.le⟩
  obtain ⟨b, o, e, hlt, hc⟩ := h.isN.2.2 hn
  refine ⟨b, o, e, by simpa [World.setCell] using hlt, fun j hj => ?_⟩
  rw [cell_setCell_ne _ _ (by intro e2; injection e2 with e2; exact hg hn b o none e e2.symm)]
  exact hc j hj
theorem NN.fill3 {w : World} {A : Option Addr} {n c : Nat} {xs : List Nat} {a L g : Nat} (h : NN w A n c xs a L) (hg : Apart g A n) (u v b : Value) : NN (fill3 w g u v b) A n c xs a L :=
  ((h.elsewhere hg 0 u).elsewhere hg 1 v).elsewhere hg 2 b
theorem below_fill3 {w wr : World} {g : Nat} (h : Below w.heap.size w wr) (hg : w.heap.size ≤ g) (u v b : Value) : Below w.heap.size w (fill3 wr g u v b) :=
  ((h.setCell (by exact hg) _).setCell (by exact hg) _).setCell (by exact hg) _

theorem refRem_no {A A' : Option Addr} {n c n' c' : Nat} {xs ys : List Nat} {a b L L' : Nat} {w : World} (hx : NN w A n c xs a L) (hy : NN w A' n' c' ys b L') (h1 : L ≤ 100000) (h2 : L' ≤ 100000) (hb : b = 0) :
    Calls Try.prog 11 #[.slice A n c, .slice A' n' c'] w fun e w' => e = .returned (.agg #[.slice none 0 0, .slice none 0 0, .bool false]) ∧ Below w.heap.size w w' := by
  have b0 := below_new w (.cells #[Value.slice none 0 0, Value.slice none 0 0, Value.bool false] 30)
  have hy0 := hy.below b0
  go_enter Try.func11, Try.ntmps11
  go_wp2_with fail
  refine (refBits_c hy0 (by omega) 0 (by rw [hb, blen_zero]; rfl)).mono ?_
  rintro e w1 ⟨rfl, rfl⟩
  go_wp2
  refine bodyPost_ret (results_cell_row rfl _ _ w.heap.size 30 #[Value.slice none 0 0, Value.slice none 0 0, Value.bool false] (0, 0) _ rfl (heap_alloc_new _ _) Try.underlying30 rfl got3_size) rfl ?_
  exact ⟨rfl, b0⟩

/-- A machine's number is this one: under a name that no simp set opens. -/
def NumIs (V : Int) (n : Nat) : Prop := V = n

set_option maxHeartbeats 3200000 in
theorem refRem_yes {A A' : Option Addr} {n c n' c' : Nat} {xs ys : List Nat} {a b L L' : Nat} {w : World} (hx : NN w A n c xs a L) (hy : NN w A' n' c' ys b L') (h1 : L ≤ 100000) (h2 : L' ≤ 100000) (hb : b ≠ 0) :
    Calls Try.prog 11 #[.slice A n c, .slice A' n' c'] w fun e w' => ∃ A1 n1 c1 A2 n2 c2, e = .returned (.agg #[.slice A1 n1 c1, .slice A2 n2 c2, .bool true]) ∧ NN w' A1 n1 c1 (limbs (a / b)) (a / b) L ∧ NN w' A2 n2 c2 (limbs (a % b)) (a % b) L ∧ Below w.heap.size w w' := by
  have b0 := below_new w (.cells #[Value.slice none 0 0, Value.slice none 0 0, Value.bool false] 30)
  have hB0 : Blank3 (w.alloc (.cells #[Value.slice none 0 0, Value.slice none 0 0, Value.bool false] 30)) w.heap.size := heap_alloc_new _ _
  have hx0 := hx.below b0
  have hy0 := hy.below b0
  have hbb : 0 < blen b := Nat.pos_of_ne_zero fun h => hb (blen_eq_zero.1 h)
  have hbz : (((blen b : Nat) : Int) == 0) = false := by simp; omega
  have hba := blen_NN hx
  have hbbL := blen_NN hy
  have Hb := Lib.hid hb
  have Hla := Lib.hid (lt_pow hx)
  have hg0 : w.heap.size < (w.alloc (.cells #[Value.slice none 0 0, Value.slice none 0 0, Value.bool false] 30)).heap.size := by simp
  have hroom : b * 2 ^ (blen a - blen b) < 4294967296 ^ (L' + L) := by
    rw [Nat.pow_add]
    exact Nat.lt_of_lt_of_le (Nat.mul_lt_mul_of_pos_right (lt_pow hy) (Nat.two_pow_pos _)) (Nat.mul_le_mul_left _ (two_pow_le (by omega)))
  clear hb
  by_cases hle : blen b < blen a
  case' pos =>
    obtain ⟨n0, hn0⟩ : ∃ n0, n0 = blen a - blen b := ⟨_, rfl⟩
    have en : ((blen a : Nat) : Int) - ((blen b : Nat) : Int) = (n0 : Int) := by omega
    have eN : NumIs (n0 : Int) n0 := rfl
    obtain ⟨q0, hq0⟩ : ∃ q0, q0 = n0 / 32 := ⟨_, rfl⟩
    have eq0 : (n0 : Int) / 32 = (q0 : Int) := by omega
    have hcmp : ((blen b : Nat) : Int) < ((blen a : Nat) : Int) := by omega
    have hmk := run_made ((q0 : Int) + 1) (q0 + 1) (by omega) (by omega)
  case' neg =>
    obtain ⟨n0, hn0⟩ : ∃ n0, n0 = blen a - blen b := ⟨_, rfl⟩
    have eN : NumIs 0 n0 := by show _ = _; omega
    obtain ⟨q0, hq0⟩ : ∃ q0, q0 = n0 / 32 := ⟨_, rfl⟩
    have hcmp : ((blen a : Nat) : Int) ≤ ((blen b : Nat) : Int) := by omega
    have hmk := run_made 1 (q0 + 1) (by omega) (by omega)
  all_goals
    have hlab : blen a ≤ blen b + n0 := by omega
    have Hlab := Lib.hid hlab
    have hn0L : n0 ≤ 32 * L := by omega
    have hq0L : q0 ≤ L := by omega
    have Hq0 := Lib.hid hq0
    rw [← hn0] at hroom
    have Hroom := Lib.hid hroom
    clear hlab hle hn0 hq0 hroom
    go_enter Try.func11, Try.ntmps11
    go_wp2_with fail
    generalize w.alloc (.cells #[Value.slice none 0 0, Value.slice none 0 0, Value.bool false] 30) = w0 at *
    refine (refBits_c hy0 (by omega) _ rfl).mono ?_
    rintro e w1 ⟨rfl, rfl⟩
    go_wp2_with fail
    refine (refTrim_o hx0 (by omega)).mono ?_
    rintro e w1 ⟨A1, n1, c1, rfl, ho, bn⟩
    have hx1 := hx0.below bn
    have hy1 := hy0.below bn
    have hB1 := hB0.below bn
    have bw1 := below_two b0 bn
    have hl1 : NN w1 A1 n1 c1 (limbs a) a L := NN.own ho Hla.out
    have ap1 : Apart w.heap.size A1 n1 := Apart.own ho hg0
    have hsz1 : w.heap.size < w1.heap.size := Nat.lt_of_lt_of_le hg0 bn.size
    clear ho bn hx0 hy0 hB0 b0
    go_wp2_with fail
    refine (refBits_c hx1 (by omega) _ rfl).mono ?_
    rintro e w2 ⟨rfl, rfl⟩
    go_wp2_with fail
    refine (refBits_c hy1 (by omega) _ rfl).mono ?_
    rintro e w2 ⟨rfl, rfl⟩
    have b2 := below_new w1 (.cells (madeCells #[.int .u32 0] (q0 + 1)) 24)
    have Hq := Lib.hid (own_made w1 (q0 + 1) (by omega))
    have hy2 := hy1.below b2
    have Hl2 := Lib.hid (hl1.below b2)
    have HB2 := Lib.hid (hB1.below b2)
    have Hbw2 := Lib.hid (below_two bw1 b2)
    have Hap := Lib.hid ap1
    have Hapq := Lib.hid (Apart.old hl1 (Nat.le_refl _))
    have hsz2 : w1.heap.size < (w1.alloc (.cells (madeCells #[.int .u32 0] (q0 + 1)) 24)).heap.size := by simp
    have Hsz1 := Lib.hid hsz1
    clear hx1 hy1 hl1 hB1 bw1 ap1 b2 hsz1 hx hy
    go_wp2_with fail
    generalize w1.alloc (.cells (madeCells #[.int .u32 0] (q0 + 1)) 24) = w2 at *
    refine (refUp_o hy2 n0 _ eN (by omega) (by omega)).mono ?_
    rintro e w3 ⟨A3, n3, c3, rfl, h3, bn⟩
    have Hx3 : RowKit.Hid (NN w3 A3 n3 c3 (limbs (xAt b (n0 + 1))) (xAt b (n0 + 1)) (L' + L) ∧ Apart w1.heap.size A3 n3) := by
      have e := xAt_succ b n0
      rw [e]
      exact ⟨NN.own h3 Hroom.out, Apart.own h3 hsz2⟩
    have Hq3 := Lib.hid (Hq.out.below bn (Nat.le_refl _))
    have Hl3 : RowKit.Hid (NN w3 A1 n1 c1 (limbs a) a L ∧ Apart w1.heap.size A1 n1 ∧ Apart w.heap.size A1 n1) := ⟨Hl2.out.below bn, Hapq.out, Hap.out⟩
    have HB3 := Lib.hid (HB2.out.below bn)
    have Hbw3 := Lib.hid (below_two Hbw2.out bn)
    clear bn h3 hy2 Hq Hl2 HB2 Hbw2 Hap Hapq
    obtain ⟨gq, hgq⟩ : ∃ gq, gq = w1.heap.size := ⟨_, rfl⟩
    rw [← hgq] at Hx3 Hq3 Hl3 Hsz1 hsz2 ⊢
    clear hgq hmk
    go_wp2
    go_loopw [9, 5, 8] (fun i lv xv wr => ∃ (j left : Nat) (zs : List Nat) (A2 : Option Addr) (n2 c2 : Nat) (A3 : Option Addr) (n3 c3 : Nat), j ≤ n0 + 1 ∧ i = .int .i64 ((j : Int) - 1) ∧ lv = .slice A2 n2 c2 ∧ xv = .slice A3 n3 c3 ∧ RowKit.Hid (QInv a b zs left j) ∧
      RowKit.Hid (OwnN wr gq (some ⟨gq, 0, none⟩) (q0 + 1) (q0 + 1) zs) ∧ RowKit.Hid (NN wr A2 n2 c2 (limbs left) left L ∧ Apart gq A2 n2 ∧ Apart w.heap.size A2 n2) ∧ RowKit.Hid (NN wr A3 n3 c3 (limbs (xAt b j)) (xAt b j) (L' + L) ∧ Apart gq A3 n3) ∧ RowKit.Hid (Below w.heap.size w wr) ∧ RowKit.Hid (Blank3 wr w.heap.size)) (fun i _ _ _ => (intOf i + 1).toNat)
    case atStart => exact ⟨n0 + 1, a, _, A1, n1, c1, A3, n3, c3, Nat.le_refl _, by have e : _ = _ := eN; first | (rw [e]; go_num) | (congr 1; omega), rfl, rfl, QInv.start _ Hb.out Hlab.out, Hq3, Hl3, Hx3, Hbw3, HB3⟩
    case round =>
      clear Hq3 Hl3 Hx3 Hbw3 HB3
      obtain ⟨j, left, zs, A2, n2, c2, A3, n3, c3, hj, rfl, rfl, rfl, Hinv, Hq, Hl, Hx, Hbw, HB⟩ := hrel
      rcases j with _ | p
      · have Hd := Lib.hid (Hinv.out.done Hb.out)
        have hq := Hq.out.isN
        have hqn : NN wr (some ⟨gq, 0, none⟩) (q0 + 1) (q0 + 1) zs (val zs) (L + 1) := ⟨hq, rfl, Nat.le_refl _, by omega⟩
        have hgs : gq < wr.heap.size := by
          obtain ⟨g', e', _, hlt'⟩ := Hq.out.addr (by omega)
          injection e' with e'; injection e' with e'
          omega
        have hgs2 : w.heap.size < wr.heap.size := Nat.lt_trans Hsz1.out hgs
        clear hq hgs
        go_wp2_with fail
        refine (refTrim_o hqn (by omega)).mono ?_
        rintro e w4 ⟨A4, n4, c4, rfl, h4, bn⟩
        have hbl := HB.out.below bn
        have hQ : NN w4 A4 n4 c4 (limbs (a / b)) (a / b) L := by
          rw [Hd.out.1] at h4
          exact NN.own h4 (Nat.lt_of_le_of_lt (Nat.div_le_self _ _) Hla.out)
        have HQ : RowKit.Hid (NN w4 A4 n4 c4 (limbs (a / b)) (a / b) L ∧ Apart w.heap.size A4 n4) := ⟨hQ, Apart.own h4 hgs2⟩
        have HR : RowKit.Hid (NN w4 A2 n2 c2 (limbs (a % b)) (a % b) L ∧ Apart w.heap.size A2 n2) := by
          have h := Hl.out.1.below bn
          rw [Hd.out.2] at h
          exact ⟨h, Hl.out.2.2⟩
        have Hbl := Lib.hid hbl
        have Hbw4 := Lib.hid (below_two Hbw.out bn)
        obtain ⟨hc0, hc1, hc2⟩ := hbl.cells
        have hf0 := hbl.free 0
        have hf1 := hbl.free 1
        have hf2 := hbl.free 2
        clear h4 bn hbl hQ hqn Hd Hinv Hq Hl Hx Hbw HB hgs2
        go_wp2
        refine bodyPost_ret (results_cell_row rfl _ _ w.heap.size 30 #[Value.slice A4 n4 c4, Value.slice A2 n2 c2, Value.bool true] (0, 0) _ rfl (Hbl.out.filled _ _ _) Try.underlying30 rfl got3_size) rfl ?_
        exact ⟨A4, n4, c4, A2, n2, c2, rfl, HQ.out.1.fill3 HQ.out.2 _ _ _, HR.out.1.fill3 HR.out.2 _ _ _, below_fill3 Hbw4.out (Nat.le_refl _) _ _ _⟩
      · have ep : (((p + 1 : Nat) : Int) - 1) = (p : Int) := by omega
        rw [ep]
        clear ep
        have hpn : p ≤ n0 := by omega
        have Hx2 : RowKit.Hid (NN wr A3 n3 c3 (limbs (b * 2 ^ p)) (b * 2 ^ p) (L' + L) ∧ Apart gq A3 n3) := by
          have h := Hx.out
          rw [xAt_succ] at h
          exact h
        have hl := Hl.out.1
        have hx := Hx2.out.1
        by_cases hge : b * 2 ^ p ≤ left
        · have Hge := Lib.hid hge
          obtain ⟨v, hv, hv0⟩ : ∃ v : Int, cmpI left (b * 2 ^ p) = v ∧ 0 ≤ v := by
            rcases Nat.lt_or_eq_of_le hge with h | h
            · exact ⟨1, cmpI_gt h, by omega⟩
            · exact ⟨0, cmpI_same h.symm, by omega⟩
          have Hv := Lib.hid hv
          clear hge hv
          go_wp2_with fail
          refine (refCmp_c hl hx (by omega) (by omega) v Hv.out).mono ?_
          rintro e w3 ⟨rfl, rfl⟩
          go_wp2_with fail
          refine (refSub_o hl hx (by omega) (by omega) Hge.out).mono ?_
          rintro e w4 ⟨A4, n4, c4, rfl, h4, bn⟩
          have Hl4 : RowKit.Hid (NN w4 A4 n4 c4 (limbs (left - b * 2 ^ p)) (left - b * 2 ^ p) L ∧ Apart gq A4 n4 ∧ Apart w.heap.size A4 n4) := by
            have hq := Hq.out.addr (by omega)
            obtain ⟨g', e', _, hlt'⟩ := hq
            injection e' with e'; injection e' with e'
            have hgs : gq < wr.heap.size := by omega
            exact ⟨NN.own h4 (Nat.lt_of_le_of_lt (Nat.sub_le _ _) (lt_pow hl)), Apart.own h4 hgs, Apart.own h4 (Nat.lt_trans Hsz1.out hgs)⟩
          have Hq4 := Lib.hid (Hq.out.below bn (Nat.le_refl _))
          have Hx4 : RowKit.Hid (NN w4 A3 n3 c3 (limbs (b * 2 ^ p)) (b * 2 ^ p) (L' + L) ∧ Apart gq A3 n3) := ⟨hx.below bn, Hx2.out.2⟩
          have Hbw4 := Lib.hid (below_two Hbw.out bn)
          have HB4 := Lib.hid (HB.out.below bn)
          clear h4 bn Hq Hx Hx2 Hbw HB Hl hl hx
          obtain ⟨pq, hpq⟩ : ∃ pq, pq = p / 32 := ⟨_, rfl⟩
          obtain ⟨pr, hpr⟩ : ∃ pr, pr = p % 32 := ⟨_, rfl⟩
          have epq : (p : Int) / 32 = (pq : Int) := by omega
          have epr : (p : Int) % 32 = (pr : Int) := by omega
          have hpr32 : pr < 32 := by omega
          have hpq1 : pq < q0 + 1 := by rw [Hq0.out] at *; omega
          have hcell := Hq4.out.cell (k := pq) hpq1
          have hfro := Hq4.out.1.frozenAt pq
          have l1 := lim_lt Hq4.out.small pq
          obtain ⟨d, hd⟩ : ∃ d, d = lim zs pq ||| 2 ^ pr := ⟨_, rfl⟩
          have hdl : d < 4294967296 := by rw [hd]; exact bit_small l1 hpr32
          have Hst : RowKit.Hid (QInv a b (zs.set pq d) (left - b * 2 ^ p) p) := by
            have h := Hinv.out.yes Hq4.out.small Hge.out (by rw [Hq4.out.len, ← hpq]; exact hpq1)
            rw [← hpq, ← hpr, ← hd] at h
            exact h
          have Hq5 : RowKit.Hid (OwnN (w4.setCell ⟨gq, pq, none⟩ (.int .u32 (d : Int))) gq (some ⟨gq, 0, none⟩) (q0 + 1) (q0 + 1) (zs.set pq d)) := Hq4.out.set pq hdl
          have Hor : RowKit.Hid (bits BinOp.or IntKind.u32 ((lim zs pq : Nat) : Int) (2 ^ pr % 4294967296) = (d : Int)) := by
            show _ = _
            rw [two_pow_int pr hpr32, u32_or_nat _ _ l1 (two_pow_small pr hpr32), hd]
          clear hpq hpr hd
          go_wp2_with fail
          rw [Hor.out]
          have Hx5 : RowKit.Hid (NN (w4.setCell ⟨gq, pq, none⟩ (.int .u32 (d : Int))) A3 n3 c3 (limbs (b * 2 ^ p)) (b * 2 ^ p) (L' + L)) := Hx4.out.1.elsewhere Hx4.out.2 _ _
          have Hl5 : RowKit.Hid (NN (w4.setCell ⟨gq, pq, none⟩ (.int .u32 (d : Int))) A4 n4 c4 (limbs (left - b * 2 ^ p)) (left - b * 2 ^ p) L ∧ Apart gq A4 n4 ∧ Apart w.heap.size A4 n4) := ⟨Hl4.out.1.elsewhere Hl4.out.2.1 _ _, Hl4.out.2⟩
          have Hbw5 : RowKit.Hid (Below w.heap.size w (w4.setCell ⟨gq, pq, none⟩ (.int .u32 (d : Int)))) := Hbw4.out.setCell (by exact Nat.le_of_lt Hsz1.out) _
          have HB5 : RowKit.Hid (Blank3 (w4.setCell ⟨gq, pq, none⟩ (.int .u32 (d : Int))) w.heap.size) := (Below.heap_setCell w4 _ _ _ (by have := Hsz1.out; exact Nat.ne_of_lt this)).trans HB4.out
          clear Hor Hq4 Hl4 Hx4 Hbw4 HB4 hcell hfro
          generalize w4.setCell ⟨gq, pq, none⟩ (.int .u32 (d : Int)) = w5 at *
          have hx5 := Hx5.out
          refine (refDown_o hx5 1 1 rfl (by decide) (by omega)).mono ?_
          rintro e w6 ⟨A6, n6, c6, rfl, h6, bn⟩
          have hgs : gq < w5.heap.size := by
            obtain ⟨g', e', _, hlt'⟩ := Hq5.out.addr (by omega)
            injection e' with e'; injection e' with e'
            omega
          have Hx6 : RowKit.Hid (NN w6 A6 n6 c6 (limbs (xAt b p)) (xAt b p) (L' + L) ∧ Apart gq A6 n6) :=
            ⟨NN.own h6 (Nat.lt_of_le_of_lt (Nat.div_le_self _ _) (lt_pow hx5)), Apart.own h6 hgs⟩
          have Hq6 := Lib.hid (Hq5.out.below bn (Nat.le_refl _))
          have Hl6 : RowKit.Hid (NN w6 A4 n4 c4 (limbs (left - b * 2 ^ p)) (left - b * 2 ^ p) L ∧ Apart gq A4 n4 ∧ Apart w.heap.size A4 n4) := ⟨Hl5.out.1.below bn, Hl5.out.2⟩
          have Hbw6 := Lib.hid (below_two Hbw5.out bn)
          have HB6 := Lib.hid (HB5.out.below bn)
          obtain ⟨left2, hl2⟩ : ∃ t, t = left - b * 2 ^ p := ⟨_, rfl⟩
          rw [← hl2] at Hl6 Hst
          clear h6 bn Hq5 Hl5 Hx5 Hbw5 HB5 hx5 hgs hl2
          go_wp2
          go_roundw
          case rel => exact ⟨p, left2, zs.set pq d, A4, n4, c4, A6, n6, c6, by omega, by go_num, rfl, rfl, Hst, Hq6, Hl6, Hx6, Hbw6, HB6⟩
          case measure => simp [intOf]
        · have hlt : left < b * 2 ^ p := by omega
          have Hlt := Lib.hid hlt
          have Hv := Lib.hid (cmpI_lt hlt)
          clear hge hlt
          go_wp2_with fail
          refine (refCmp_c hl hx (by omega) (by omega) (-1) Hv.out).mono ?_
          rintro e w3 ⟨rfl, rfl⟩
          go_wp2_with fail
          refine (refDown_o hx 1 1 rfl (by decide) (by omega)).mono ?_
          rintro e w4 ⟨A4, n4, c4, rfl, h4, bn⟩
          have hgs : gq < wr.heap.size := by
            obtain ⟨g', e', _, hlt'⟩ := Hq.out.addr (by omega)
            injection e' with e'; injection e' with e'
            omega
          have Hx4 : RowKit.Hid (NN w4 A4 n4 c4 (limbs (xAt b p)) (xAt b p) (L' + L) ∧ Apart gq A4 n4) :=
            ⟨NN.own h4 (Nat.lt_of_le_of_lt (Nat.div_le_self _ _) (lt_pow hx)), Apart.own h4 hgs⟩
          have Hq4 := Lib.hid (Hq.out.below bn (Nat.le_refl _))
          have Hl4 : RowKit.Hid (NN w4 A2 n2 c2 (limbs left) left L ∧ Apart gq A2 n2 ∧ Apart w.heap.size A2 n2) := ⟨hl.below bn, Hl.out.2⟩
          have Hbw4 := Lib.hid (below_two Hbw.out bn)
          have HB4 := Lib.hid (HB.out.below bn)
          have Hst := Lib.hid (Hinv.out.no Hlt.out)
          clear h4 bn Hq Hx Hx2 Hbw HB Hl hl hx hgs
          go_wp2
          go_roundw
          case rel => exact ⟨p, left, zs, A2, n2, c2, A4, n4, c4, by omega, by go_num, rfl, rfl, Hst, Hq4, Hl4, Hx4, Hbw4, HB4⟩
          case measure => simp [intOf]

end Go.Proofs.Ytbenkbgdahcaaaa
