/- What the reference's calls of layer 5 come to, as contracts over memory: a number by ten and what is left, its decimal text, ten to a power. Conditions: lists read as limbs, of at most 10^4 of them; exponents of at most 10^4. -/
import Derived.Test.YtpkjooiddejgpaaDoorByte
import Derived.Test.YtpkjooiddejgpaaDoorQuoM
import Derived.Test.YtpkjooiddejgpaaDoorRefMulA
import Derived.Test.YtpkjooiddejgpaaDoorRefQuoG
namespace Go.Proofs.YtpkjooiddejgpaaDoor
open Go.RowKit Limb
set_option linter.unusedVariables false

theorem or_hi (x y : Nat) (hx : x < 4294967296) (hy : y < 4294967296) : bits BinOp.or IntKind.u64 ((x : Int) * 4294967296) (y : Int) = ((x * 4294967296 + y : Nat) : Int) := by
  have e1 : (x : Int) * 4294967296 = ((x * 4294967296 : Nat) : Int) := by omega
  rw [e1, u64_or_nat _ _ (by omega) (by omega), Nat.mul_comm x, show (4294967296 : Nat) = 2 ^ 32 from rfl, Nat.two_pow_add_eq_or_of_lt (by omega)]

theorem ret_digit {A : Option Addr} {n c r s : Nat} (h : r = s) : Ending.returned (.tuple #[.slice A n c, .int .u8 ((r : Nat) : Int)]) = .returned (.tuple #[.slice A n c, .int .u8 ((s : Nat) : Int)]) := by rw [h]

set_option maxHeartbeats 1000000 in
set_option maxRecDepth 4000 in
theorem refTenth_o {A : Option Addr} {n c : Nat} {xs : List Nat} {a L : Nat} {w : World} (hx : NN w A n c xs a L) (h1 : L ≤ 10000) :
    Calls Tryd.prog 31 #[.slice A n c] w fun e w' => ∃ A1 n1 c1, e = .returned (.tuple #[.slice A1 n1 c1, .int .u8 ((a % 10 : Nat) : Int)]) ∧ OwnN w' w.heap.size A1 n1 c1 (limbs (a / 10)) ∧ Below w.heap.size w w' := by
  have hle := hx.le
  have Hval := Lib.hid hx.val
  have Hlen := Lib.hid hx.isN.len
  have Hsm := Lib.hid hx.isN.small
  have HX := Lib.hid (hx.below (below_new w (.cells #[] 39)))
  have HN := Lib.hid hx
  clear hx
  have Hown : RowKit.Hid ((w.alloc (.cells #[] 39)).ownsRow w.heap.size 39 1 (.slice (some ⟨w.heap.size, 0, none⟩) 0 0) 0 (([] : List Nat).map limV)) := own_lit w [] 0 rfl (by omega)
  have Hb : RowKit.Hid (0 ≤ 1000000000 ∧ L ≤ 1000000000 ∧ w.heap.size ≤ (w.alloc (.cells #[] 39)).heap.size ∧ Small []) := ⟨by omega, by omega, by simp, small_nil⟩
  go_enter Tryd.func31, Tryd.ntmps31
  go_wp2_with (at_builtin; refine wpList_append_nat rfl _ _ rfl w.heap.size _ 0 [] rfl Hown A n c xs a L rfl HX Hb ?_)
  intro A1 c1 w1 how hgrow
  have HW := Lib.hid (below_lit hgrow.out (Nat.le_refl _))
  have How : RowKit.Hid (OwnN w1 w.heap.size A1 n c1 xs) := how.out
  have hi0 : RowKit.Hid (OneInv xs xs 10 n 0) := by
    have h := OneInv.start xs (v := 10) (by decide)
    rw [Hlen.out] at h
    exact h
  clear how hgrow Hown Hb HX
  go_wp2
  go_loopw [6, 5] (fun i rv wr => ∃ (k r : Nat) (zs : List Nat), k ≤ n ∧ i = .int .i64 ((k : Int) - 1) ∧ rv = .int .u64 (r : Int) ∧ RowKit.Hid (OneInv xs zs 10 k r) ∧ RowKit.Hid (OwnN wr w.heap.size A1 n c1 zs) ∧ RowKit.Hid (Below w.heap.size w wr)) (fun i _ _ => (intOf i + 1).toNat)
  case atStart => exact ⟨n, 0, xs, Nat.le_refl _, rfl, rfl, hi0, How, HW⟩
  case round =>
    clear hi0 How HW
    obtain ⟨k, r, zs, hk, rfl, rfl, Hinv, How, Hb⟩ := hrel
    by_cases hk0 : k = 0
    · subst hk0
      have hd := Hinv.out.done
      have Hd1 : RowKit.Hid (val zs = a / 10) := by show _ = _; rw [hd.1, Hval.out]
      have hr2 : r = a % 10 := by rw [hd.2, Hval.out]
      have Hr := Lib.hid hr2
      have hr10 := Hinv.out.2.2.2
      have hz : NN wr A1 n c1 zs (a / 10) L := ⟨How.out.isN, Hd1.out, How.out.caps.1, hle⟩
      clear hd hr2
      go_wp2_with fail
      refine (refTrim_o hz (by omega)).mono ?_
      rintro e w2 ⟨A2, n2, c2, rfl, hn2, bn⟩
      have HN2 := Lib.hid (hn2.mono Hb.out.size)
      have HW := Lib.hid (below_two Hb.out bn)
      clear hn2 bn hz Hinv How Hb
      go_wp2
      go_ret2
      exact ⟨_, _, _, ret_digit Hr.out, HN2.out, HW.out⟩
    · obtain ⟨j, rfl⟩ : ∃ j, k = j + 1 := ⟨k - 1, by omega⟩
      have ej : ((j + 1 : Nat) : Int) - 1 = (j : Int) := by omega
      rw [ej]
      obtain ⟨b0, o0, rfl, hb0, hc0⟩ := HN.out.isN.2.2 (by omega)
      obtain ⟨g, rfl, hBg, hgl⟩ := How.out.addr (by omega)
      have h1' : wr.cell? ⟨b0, o0 + j, none⟩ = some (.int .u32 ((lim xs j : Nat) : Int)) := (Hb.out.cell (p := ⟨b0, o0 + j, none⟩) hb0).trans (hc0 j (by omega))
      have h2 := How.out.cell (k := j) (by omega)
      have h4 := How.out.1.frozenAt j
      have hr := Hinv.out.2.2.2
      have hz := lim_lt Hsm.out j
      have Hst := Lib.hid (Hinv.out.step (k := j) (by rw [Hlen.out]; omega))
      rw [Hinv.out.2.1 j (by omega)] at Hst
      have hdl := one_digit (v := 10) hr hz
      have hor := or_hi r (lim xs j) (by omega) hz
      obtain ⟨z, hzz⟩ : ∃ z, z = r * 4294967296 + lim xs j := ⟨_, rfl⟩
      rw [← hzz] at hdl Hst hor
      have hzl : z < 42949672960 := by omega
      obtain ⟨q, hq⟩ : ∃ q, q = z / 10 := ⟨_, rfl⟩
      obtain ⟨m, hm⟩ : ∃ m, m = z % 10 := ⟨_, rfl⟩
      rw [← hq] at hdl Hst
      rw [← hm] at Hst
      have eq1 : (z : Int) / 10 = (q : Int) := by omega
      have em1 : (z : Int) % 10 = (m : Int) := by omega
      have Hset := Lib.hid (How.out.set j hdl)
      have Hb2 : RowKit.Hid (Below w.heap.size w (wr.setCell ⟨g, j, none⟩ (.int .u32 (q : Int)))) := Hb.out.setCell (by exact hBg) _
      clear ej hq hm hzz How Hb Hinv hc0
      go_wp2
      go_roundw
      case rel => exact ⟨j, m, zs.set j q, by omega, by go_num, by rw [em1], Hst, Hset, Hb2⟩
      case measure => simp [intOf] <;> omega

/-- A row of limbs of the call's own stays where another one grows. -/
theorem OwnN.keeps {w w' : World} {B : Nat} {A : Option Addr} {n c : Nat} {zs : List Nat} (h : OwnN w B A n c zs) {row : Option Nat} {o : Obj} (hg : (w.alloc o).grownBy w' row) (hr : ∀ k, row = some k → k < B) : OwnN w' B A n c zs := by
  have ha := h.alloc o
  refine ⟨⟨h.1.1, ?_⟩, h.2⟩
  rcases ha.1.2 with h2 | ⟨g, cap, cur, hv, hB, hh, r⟩
  · exact .inl h2
  · refine .inr ⟨g, cap, cur, hv, hB, ?_, r⟩
    have hlt : g < (w.alloc o).heap.size := by
      rcases Nat.lt_or_ge g (w.alloc o).heap.size with hlt | hge
      · exact hlt
      · rw [Array.getElem?_eq_none hge] at hh; cases hh
    rw [hg.block g hlt (fun e => by have := hr g e.symm; omega)]
    exact hh

end Go.Proofs.YtpkjooiddejgpaaDoor
namespace Go.Proofs.YtpkjooiddejgpaaDoor.Limb

/-- The digits that are still to come: none of 0. -/
def decS (n : Nat) : List Nat := if n = 0 then [] else decT n
theorem decS_zero : decS 0 = [] := rfl
theorem decS_pos {n : Nat} (h : n ≠ 0) : decS n = decT n := if_neg h
theorem decS_step {n : Nat} (h : n ≠ 0) : decS n = decS (n / 10) ++ [48 + n % 10] := by
  rw [decS_pos h]
  by_cases h1 : n < 10
  · rw [decT_small h1, show n / 10 = 0 by omega, decS_zero, show n % 10 = n by omega]; rfl
  · rw [decT_big (by omega), decS_pos (by omega)]

/-- The digits so far, the lowest first, and the number that is left. -/
def TInv (a : Nat) (zs : List Nat) (m : Nat) : Prop := decS a = decS m ++ zs.reverse ∧ Bytes zs
theorem TInv.start (a : Nat) : TInv a [] a := ⟨by simp, bytes_nil⟩
theorem TInv.step {a m : Nat} {zs : List Nat} (h : TInv a zs m) (h0 : m ≠ 0) : TInv a (zs ++ [48 + m % 10]) (m / 10) := by
  refine ⟨?_, bytes_append.2 ⟨h.2, bytes_cons.2 ⟨by omega, bytes_nil⟩⟩⟩
  rw [h.1, decS_step h0, List.reverse_append]; simp
theorem TInv.done {a : Nat} {zs : List Nat} (h : TInv a zs 0) : decS a = zs.reverse := by rw [h.1, decS_zero]; rfl
theorem TInv.len {a m L : Nat} {zs : List Nat} (h : TInv a zs m) (hl : a < 4294967296 ^ L) : zs.length ≤ 10 * L + 1 := by
  have h1 : (decS a).length ≤ 10 * L + 1 := by
    unfold decS
    split
    · simp
    · exact decT_len_limbs hl
  rw [h.1] at h1
  simp at h1
  omega

/-- A row that is being turned round: so many at both ends are. -/
def RevInv (zs ys : List Nat) (i : Nat) : Prop :=
  ys.length = zs.length ∧ (∀ j, j < zs.length → lim ys j = if j < i ∨ zs.length ≤ j + i then lim zs (zs.length - 1 - j) else lim zs j) ∧ 2 * i ≤ zs.length + 1
theorem RevInv.start (zs : List Nat) : RevInv zs zs 0 := ⟨rfl, fun j hj => by rw [if_neg (by omega)], by omega⟩
theorem RevInv.step {zs ys : List Nat} {i k : Nat} (h : RevInv zs ys i) (hk : i + k + 1 = zs.length) (hik : i < k) : RevInv zs ((ys.set i (lim ys k)).set k (lim ys i)) (i + 1) := by
  obtain ⟨h1, h2, h3⟩ := h
  refine ⟨by simp [h1], fun j hj => ?_, by omega⟩
  have e1 := h2 i (by omega)
  have e2 := h2 k (by omega)
  rw [if_neg (by omega)] at e1 e2
  by_cases j1 : j = k
  · subst j1
    rw [lim_set_self (by simp; omega), e1, if_pos (by omega), show zs.length - 1 - j = i by omega]
  · rw [lim_set_ne (fun e => j1 e.symm)]
    by_cases j2 : j = i
    · subst j2
      rw [lim_set_self (by omega), e2, if_pos (by omega), show zs.length - 1 - j = k by omega]
    · rw [lim_set_ne (fun e => j2 e.symm), h2 j hj]
      by_cases c : j < i ∨ zs.length ≤ j + i
      · rw [if_pos c, if_pos (by omega)]
      · rw [if_neg c, if_neg (by omega)]
theorem eq_of_lim {xs ys : List Nat} (hl : xs.length = ys.length) (h : ∀ j, j < xs.length → lim xs j = lim ys j) : xs = ys := by
  refine List.ext_getElem hl fun j h1 h2 => ?_
  have := h j h1
  simpa [lim, List.getD_eq_getElem?_getD, List.getElem?_eq_getElem h1, List.getElem?_eq_getElem h2] using this
theorem lim_reverse {zs : List Nat} {j : Nat} (h : j < zs.length) : lim zs.reverse j = lim zs (zs.length - 1 - j) := by
  simp [lim, List.getD_eq_getElem?_getD, List.getElem?_reverse h]
theorem RevInv.done {zs ys : List Nat} {i k : Nat} (h : RevInv zs ys i) (hk : i + k + 1 = zs.length) (hik : k ≤ i) : ys = zs.reverse := by
  obtain ⟨h1, h2, h3⟩ := h
  refine eq_of_lim (by simp [h1]) fun j hj => ?_
  rw [h2 j (by omega), lim_reverse (by omega)]
  by_cases c : j < i ∨ zs.length ≤ j + i
  · rw [if_pos c]
  · rw [if_neg c, show zs.length - 1 - j = j by omega]

end Go.Proofs.YtpkjooiddejgpaaDoor.Limb
namespace Go.Proofs.YtpkjooiddejgpaaDoor
open Go.RowKit Limb
set_option linter.unusedVariables false

set_option maxHeartbeats 2000000 in
set_option maxRecDepth 4000 in
theorem refText_c {A : Option Addr} {n c : Nat} {xs : List Nat} {a L : Nat} {w : World} (hx : NN w A n c xs a L) (h1 : L ≤ 10000) :
    Calls Tryd.prog 15 #[.slice A n c] w fun e w' => e = .returned (.string (strOf (decT a))) ∧ Below w.heap.size w w' := by
  have Hlt := Lib.hid (lt_pow hx)
  go_enter Tryd.func15, Tryd.ntmps15
  go_wp2_with fail
  refine (refTrim_c hx (by omega)).mono ?_
  rintro e w1 ⟨A1, n1, c1, rfl, hn1, bn⟩
  have HN := Lib.hid hn1
  have HW := Lib.hid bn
  have HT := Lib.hid (TInv.start a)
  clear hn1 bn hx
  go_wp2
  go_loopw [3, 4] (fun bv nv wr => ∃ (m k : Nat) (zs : List Nat) (A2 : Option Addr) (c2 : Nat) (A3 : Option Addr) (n3 c3 : Nat), bv = .slice A2 k c2 ∧ nv = .slice A3 n3 c3 ∧ RowKit.Hid (TInv a zs m) ∧ RowKit.Hid (OwnB wr w.heap.size A2 k c2 zs) ∧ RowKit.Hid (NN wr A3 n3 c3 (limbs m) m L) ∧ RowKit.Hid (Below w.heap.size w wr)) (fun _ nv wr => readN wr nv)
  case atStart => exact ⟨a, 0, [], none, 0, _, _, _, rfl, rfl, HT, OwnB.nil _ _, HN, HW⟩
  case round =>
    clear HN HW HT
    obtain ⟨m, k, zs, A2, c2, A3, n3, c3, rfl, rfl, HT, HB, HN, HW⟩ := hrel
    have hn := HN.out
    by_cases h0 : m = 0
    · subst h0
      have hn3 : n3 = 0 := by have := hn.isN.len; rw [limbs_zero] at this; exact this.symm
      subst hn3
      have Hd := Lib.hid HT.out.done
      have hkl := HB.out.len
      by_cases ha : a = 0
      · subst ha
        have hz : zs.reverse = [] := Hd.out.symm
        obtain rfl : zs = [] := by simpa using hz
        obtain rfl : k = 0 := hkl.symm
        clear hn hz hkl Hd
        go_wp2
        go_ret
        exact ⟨rfl, HW.out⟩
      · have Hz : RowKit.Hid (zs.reverse = decT a) := by show _ = _; rw [← Hd.out, decS_pos ha]
        have hkpos : 0 < k := by
          have h := decT_pos a
          rw [← Hz.out, List.length_reverse, hkl] at h
          exact h
        have hke : ((k : Int) == 0) = false := by simp; omega
        have HRev := Lib.hid (RevInv.start zs)
        have Hkl := Lib.hid hkl
        have hk9 : k ≤ 1000000000 := by have := HT.out.len Hlt.out; omega
        obtain ⟨g, rfl, hBg, hgl⟩ := HB.out.addr hkpos
        have HB0 := HB
        have HW0 := HW
        clear hn hkl ha Hd HN HT HB HW
        go_wp2
        go_loopw [7, 8] (fun iv kv wv => ∃ (i q : Nat) (ys : List Nat), i + q + 1 = k ∧ iv = .int .i64 (i : Int) ∧ kv = .int .i64 (q : Int) ∧ RowKit.Hid (RevInv zs ys i) ∧ RowKit.Hid (OwnB wv w.heap.size (some ⟨g, 0, none⟩) k c2 ys) ∧ RowKit.Hid (Below w.heap.size w wv)) (fun iv _ _ => k - (intOf iv).toNat)
        case atStart => exact ⟨0, k - 1, zs, by omega, rfl, by go_num, HRev, HB0, HW0⟩
        case round =>
          clear HRev HB0 HW0
          obtain ⟨i, q, ys, hiq, rfl, rfl, HRev, HB, HW⟩ := hrel
          by_cases hlt : i < q
          · have hi := HB.out.cell (k := i) (by omega)
            have hq := HB.out.cell (k := q) (by omega)
            have fi := HB.out.1.frozenAt i
            have fq := HB.out.1.frozenAt q
            have li := bytes_lim HB.out.bytes i
            have lq := bytes_lim HB.out.bytes q
            have Hst := Lib.hid (HRev.out.step (k := q) (by rw [Hkl.out]; exact hiq) hlt)
            have HB1 := Lib.hid (((HB.out.set i lq).set q li).below (Below.refl _ _).drew (Nat.le_refl _))
            have HW1 := Lib.hid (((HW.out.setCell (p := ⟨g, i, none⟩) (by exact hBg) (.int .u8 ((lim ys q : Nat) : Int))).setCell (p := ⟨g, q, none⟩) (by exact hBg) (.int .u8 ((lim ys i : Nat) : Int))).drew)
            clear HRev HB HW
            go_wp2
            go_region
            clear hi hq fi fq
            go_wp2
            go_roundw
            case rel => exact ⟨i + 1, q - 1, (ys.set i (lim ys q)).set q (lim ys i), by omega, by go_num, by go_num, Hst, HB1, HW1⟩
            case measure => simp [intOf]; omega
          · have hy := HRev.out.done (k := q) (by rw [Hkl.out]; exact hiq) (by omega)
            have hlt2 : q ≤ i := by omega
            have hconv := run_text HB.out.isB (c := c2) hkpos
            rw [hy, Hz.out] at hconv
            clear hy HRev HB hlt
            go_wp2
            go_ret
            exact ⟨rfl, HW.out⟩
    · have hn3 : 0 < n3 := by
        have h := hn.isN.len
        rw [limbs_pos h0] at h
        simp at h
        omega
      have hn3e : decide (0 < (n3 : Int)) = true := by simp; exact hn3
      have Hst := Lib.hid (HT.out.step h0)
      have hkl := HT.out.len Hlt.out
      have hkl2 := HB.out.len
      have hk9 : k ≤ 1000000000 := by omega
      have hm10 : m % 10 < 10 := Nat.mod_lt _ (by decide)
      have H0 := Lib.hid h0
      clear h0 hkl hkl2
      go_wp2_with fail
      refine (refTenth_o hn h1).mono ?_
      rintro e w2 ⟨A4, n4, c4, rfl, hq, bn⟩
      have HQ := Lib.hid hq
      have Hrow := Lib.hid (fun k hk => (HB.out.1.lt k hk).2)
      have Hq := Lib.hid (Nat.lt_of_le_of_lt (Nat.div_le_self m 10) (lt_pow hn))
      have HB2 := Lib.hid (HB.out.below bn (Nat.le_refl _))
      have HW2 := Lib.hid (below_two HW.out bn)
      have Hm := Lib.hid hn.isN
      clear hq bn HB HW hn HN
      obtain ⟨d, hd⟩ : ∃ d, d = m % 10 := ⟨_, rfl⟩
      rw [← hd] at hm10 Hst ⊢
      clear hd
      have Hown : RowKit.Hid ((w2.alloc (.cells #[Value.int IntKind.u8 (48 + (d : Int))] 5)).ownsRow w.heap.size 5 1 (.slice A2 k c2) k (zs.map byV)) := (HB2.out.alloc _).row
      have Hlit : RowKit.Hid ((w2.alloc (.cells #[Value.int IntKind.u8 (48 + (d : Int))] 5)).cell? ⟨w2.heap.size, 0, none⟩ = some (.int .u8 ((48 + d : Nat) : Int)) ∧ 48 + d < 256) := ⟨by rw [World.cell?_alloc_at _ _ _ _ rfl]; rfl, by omega⟩
      have Hb : RowKit.Hid (k ≤ 1000000000 ∧ w.heap.size ≤ (w2.alloc (.cells #[Value.int IntKind.u8 (48 + (d : Int))] 5)).heap.size ∧ Bytes zs) := ⟨hk9, by have := HW2.out.size; simp; omega, HB2.out.bytes⟩
      go_wp2_with (at_builtin; refine wpList_append_byte rfl _ _ rfl w.heap.size _ k zs rfl Hown w2.heap.size rfl (48 + d) Hlit Hb ?_)
      intro A5 c5 w3 how3 hg3
      have bw3 := below_grownB HW2.out HB2.out hg3.out
      have HQ3 := Lib.hid (NN.own (HQ.out.keeps hg3.out Hrow.out) Hq.out)
      have HM : RowKit.Hid (readN w3 (.slice A4 n4 c4) < readN wr (.slice A3 n3 c3)) := by
        show _ < _
        rw [readN_eq HQ3.out.isN, readN_eq Hm.out, val_limbs, val_limbs]
        exact Nat.div_lt_self (Nat.pos_of_ne_zero H0.out) (by decide)
      have HW3 := Lib.hid bw3
      clear hg3 Hown Hlit Hb HB2 HW2 bw3 HQ Hrow Hq
      go_wp2
      go_roundw
      case rel => exact ⟨m / 10, k + 1, zs ++ [48 + d], A5, c5, A4, n4, c4, rfl, rfl, Hst, how3, HQ3, HW3⟩
      case measure => exact HM.out

theorem refTenth_c {A : Option Addr} {n c : Nat} {xs : List Nat} {a L : Nat} {w : World} (hx : NN w A n c xs a L) (h1 : L ≤ 10000) :
    Calls Tryd.prog 31 #[.slice A n c] w fun e w' => ∃ A1 n1 c1, e = .returned (.tuple #[.slice A1 n1 c1, .int .u8 ((a % 10 : Nat) : Int)]) ∧ NN w' A1 n1 c1 (limbs (a / 10)) (a / 10) L ∧ Below w.heap.size w w' := by
  refine (refTenth_o hx h1).mono ?_
  rintro e w' ⟨A1, n1, c1, rfl, how, hb⟩
  exact ⟨A1, n1, c1, rfl, NN.own how (Nat.lt_of_le_of_lt (Nat.div_le_self _ _) (lt_pow hx)), hb⟩

set_option maxHeartbeats 1000000 in
set_option maxRecDepth 4000 in
theorem refTen_c (n : Nat) (w : World) (h1 : n ≤ 10000) (K : Nat) (hK : 10 ^ n < 4294967296 ^ K) :
    Calls Tryd.prog 13 #[.int .i64 (n : Int)] w fun e w' => ∃ A1 n1 c1, e = .returned (.slice A1 n1 c1) ∧ NN w' A1 n1 c1 (limbs (10 ^ n)) (10 ^ n) K ∧ Below w.heap.size w w' := by
  have HK := Lib.hid hK
  have Hl := lit_c w [1] (by intro x hx; simp at hx; omega) 1 rfl
  have e1 : [1] = limbs 1 := by simp [limbs, limbsTo]
  have e2 : Limb.val [1] = 1 := rfl
  rw [e1, val_limbs] at Hl
  have HX : RowKit.Hid (NN (w.alloc (.cells #[Value.int IntKind.u32 1] 39)) (some ⟨w.heap.size, 0, none⟩) 1 1 (limbs (10 ^ 0)) (10 ^ 0) 1) := by
    have h := Hl
    rw [← e1] at h
    show NN _ _ _ _ _ _ _
    rw [Nat.pow_zero, ← e1]
    exact h
  have HW := Lib.hid (below_new w (.cells #[Value.int IntKind.u32 1] 39))
  clear Hl e1 e2 hK
  go_enter Tryd.func13, Tryd.ntmps13
  go_wp2
  go_loopw [4, 3] (fun iv ov wr => ∃ (i : Nat) (A2 : Option Addr) (n2 c2 : Nat), i ≤ n ∧ iv = .int .i64 (i : Int) ∧ ov = .slice A2 n2 c2 ∧ RowKit.Hid (NN wr A2 n2 c2 (limbs (10 ^ i)) (10 ^ i) (i + 1)) ∧ RowKit.Hid (Below w.heap.size w wr)) (fun iv _ _ => n - (intOf iv).toNat)
  case atStart => exact ⟨0, _, _, _, Nat.zero_le _, rfl, rfl, HX, HW⟩
  case round =>
    clear HX HW
    obtain ⟨i, A2, n2, c2, hi, rfl, rfl, HX, HW⟩ := hrel
    by_cases hlt : i < n
    · have hx := HX.out
      obtain ⟨t, ht⟩ : ∃ t, t = 10 ^ i := ⟨_, rfl⟩
      have Ht : RowKit.Hid (t * 10 = 10 ^ (i + 1)) := by show _ = _; rw [ht, Nat.pow_succ]
      rw [← ht] at hx
      clear ht HX
      go_wp2_with fail
      refine (refSmall_c hx 10 10 rfl (by decide) (by omega)).mono ?_
      rintro e w2 ⟨A3, n3, c3, rfl, hs, bn⟩
      rw [Ht.out] at hs
      have HS := Lib.hid hs
      have HW2 := Lib.hid (below_two HW.out bn)
      clear hs bn hx HW
      go_wp2
      go_roundw
      case rel => exact ⟨i + 1, A3, n3, c3, by omega, by go_num, rfl, HS, HW2⟩
      case measure => simp [intOf]; omega
    · obtain rfl : i = n := by omega
      go_wp2
      go_ret
      exact ⟨_, _, _, rfl, HX.out.relax HK.out, HW.out⟩

end Go.Proofs.YtpkjooiddejgpaaDoor
