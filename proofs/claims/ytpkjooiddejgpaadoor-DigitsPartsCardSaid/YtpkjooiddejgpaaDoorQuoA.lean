/- What math/bits' Div32 and package quo's Small answer, as contracts over memory: quotient and rest by one limb. Conditions: the list reads as limbs, of at most 10^8 of them; the high word is below the divisor. -/
import Derived.Test.YtpkjooiddejgpaaDoorNatK
import Derived.Test.YtpkjooiddejgpaaDoorQuoM
import Derived.BigQuiet
import Derived.Deep.QuietTactic
namespace Go.Proofs.YtpkjooiddejgpaaDoor
open Go.RowKit Limb
set_option linter.unusedVariables false

theorem or_hi32 (x y : Nat) (hx : x < 4294967296) (hy : y < 4294967296) : bits BinOp.or IntKind.u64 ((x : Int) * 4294967296) (y : Int) = ((x * 4294967296 + y : Nat) : Int) := by
  have e1 : (x : Int) * 4294967296 = ((x * 4294967296 : Nat) : Int) := by omega
  rw [e1, u64_or_nat _ _ (by omega) (by omega), Nat.mul_comm x, show (4294967296 : Nat) = 2 ^ 32 from rfl, Nat.two_pow_add_eq_or_of_lt (by omega)]

set_option maxHeartbeats 400000 in
theorem div32_nat (x y v : Nat) (w : World) (hx : x < v) (hy : y < 4294967296) (hv : v < 4294967296) :
    Calls Tryd.prog 57 #[.int .u32 (x : Int), .int .u32 (y : Int), .int .u32 (v : Int)] w fun e w' => e = .returned (.tuple #[.int .u32 (((x * 4294967296 + y) / v : Nat) : Int), .int .u32 (((x * 4294967296 + y) % v : Nat) : Int)]) ∧ ∃ n, w' = w.drewN n := by
  have hz := one_digit hx hy
  have hm : (x * 4294967296 + y) % v < v := Nat.mod_lt _ (by omega)
  have hs : bits BinOp.or IntKind.u64 ((x : Int) * 4294967296) (y : Int) = ((x * 4294967296 + y : Nat) : Int) := or_hi32 x y (by omega) hy
  obtain ⟨z, hzz⟩ : ∃ z, z = x * 4294967296 + y := ⟨_, rfl⟩
  have hzl : z < 18446744073709551616 := by omega
  rw [← hzz] at hz hm hs ⊢
  obtain ⟨q, hq⟩ : ∃ q, q = z / v := ⟨_, rfl⟩
  obtain ⟨m, hm2⟩ : ∃ m, m = z % v := ⟨_, rfl⟩
  have eq1 : (z : Int) / (v : Int) = (q : Int) := by rw [hq]; simp
  have em1 : (z : Int) % (v : Int) = (m : Int) := by rw [hm2]; simp
  rw [← hq] at hz ⊢
  rw [← hm2] at hm ⊢
  have hv0 : ((v : Int) != 0) = true := by simp; omega
  have hv1 : ((v : Int) == 0) = false := by simp; omega
  clear hzz hq hm2
  go_enter Tryd.func57, Tryd.ntmps57
  go_wp2
  go_quiet (fail)
  go_wp2
  go_ret2
  exact ⟨rfl, _, rfl⟩

theorem ret_small {A : Option Addr} {n c r s : Nat} (h : r = s) : Ending.returned (.tuple #[.slice A n c, .int .u32 ((r : Nat) : Int), .bool true]) = .returned (.tuple #[.slice A n c, .int .u32 ((s : Nat) : Int), .bool true]) := by rw [h]

set_option maxHeartbeats 1000000 in
theorem quoSmall_o {A : Option Addr} {n c : Nat} {xs : List Nat} {a L : Nat} {w : World} (hx : NN w A n c xs a L) (h1 : L ≤ 100000) (v : Nat) (V : Int) (hV : V = v) (hv : v < 4294967296) (h0 : v ≠ 0) :
    Calls Tryd.prog 43 #[.slice A n c, .int .u32 V] w fun e w' => ∃ A1 n1 c1, e = .returned (.tuple #[.slice A1 n1 c1, .int .u32 ((a % v : Nat) : Int), .bool true]) ∧ OwnN w' w.heap.size A1 n1 c1 (limbs (a / v)) ∧ Below w.heap.size w w' := by
  subst hV
  have hv0 : ((v : Int) == 0) = false := by simp; omega
  have hle := hx.le
  have Hval := Lib.hid hx.val
  have Hlt := Lib.hid (lt_pow hx)
  have hT := trim_any A n c xs w hx.isN hx.cap (by omega)
  have hlt := trim_len_le xs
  have hl := hx.isN.len
  have hsm : Small (trim xs) := by rw [trim_eq_limbs hx.isN.small]; exact small_limbs _
  have Hvt : RowKit.Hid (val (trim xs) = a) := by show _ = _; rw [trim_eq_limbs hx.isN.small, val_limbs, Hval.out]
  have hlen : (trim xs).length ≤ 100000 := by omega
  clear hl hlt hx hle Hval
  go_enter Tryd.func43, Tryd.ntmps43
  go_wp2_with fail
  refine hT.mono ?_
  rintro e w1 ⟨A1, n1, c1, rfl, how, hb⟩
  generalize trim xs = ys at *
  have hyl := how.len
  subst hyl
  have How := Lib.hid how
  have Hb := Lib.hid hb
  have hi0 := Lib.hid (OneInv.start ys h0)
  clear how hb hT
  go_wp2
  go_loopw [7, 5] (fun i rv wr => ∃ (k r : Nat) (zs : List Nat), k ≤ ys.length ∧ i = .int .i64 ((k : Int) - 1) ∧ rv = .int .u32 (r : Int) ∧ RowKit.Hid (OneInv ys zs v k r) ∧ RowKit.Hid (OwnN wr w.heap.size A1 ys.length c1 zs) ∧ RowKit.Hid (Below w.heap.size w wr)) (fun i _ _ => (intOf i + 1).toNat)
  case atStart => exact ⟨ys.length, 0, ys, Nat.le_refl _, rfl, rfl, hi0, How, Hb⟩
  case round =>
    clear hi0 How Hb
    obtain ⟨k, r, zs, hk, rfl, rfl, Hinv, How, Hb⟩ := hrel
    by_cases hk0 : k = 0
    · subst hk0
      have hd := Hinv.out.done
      have Hd1 : RowKit.Hid (val zs = a / v) := by show _ = _; rw [hd.1, Hvt.out]
      have hr2 : r = a % v := by rw [hd.2, Hvt.out]
      have Hr := Lib.hid hr2
      have hz := How.out.isN
      have hcap := How.out.caps
      have hsz := How.out.small
      clear hd hr2
      go_wp2_with fail
      refine (trim_any A1 ys.length c1 zs _ hz hcap.1 (by omega)).mono ?_
      rintro e w2 ⟨A2, n2, c2, rfl, how2, hb2⟩
      rw [trim_eq_limbs hsz, Hd1.out] at how2
      have HN := Lib.hid (how2.mono Hb.out.size)
      have HW := Lib.hid (below_two Hb.out hb2)
      clear how2 hb2 hz hcap hsz Hinv How Hb
      go_wp2
      go_ret3
      exact ⟨_, _, _, ret_small Hr.out, HN.out, HW.out⟩
    · obtain ⟨j, rfl⟩ : ∃ j, k = j + 1 := ⟨k - 1, by omega⟩
      have ej : ((j + 1 : Nat) : Int) - 1 = (j : Int) := by omega
      rw [ej]
      obtain ⟨g, rfl, hBg, hgl⟩ := How.out.addr (by omega)
      have h2 := How.out.cell (k := j) (by omega)
      have hr := Hinv.out.2.2.2
      have hz := lim_lt How.out.small j
      clear ej
      go_wp2_with fail
      refine (div32_nat r (lim zs j) v _ hr hz hv).mono ?_
      rintro e w2 ⟨rfl, nd, rfl⟩
      have how2 := How.out.below (below_drewN (Below.refl _ _) nd) (Nat.le_refl _)
      have hb2 := below_drewN Hb.out nd
      have hdl := one_digit hr hz
      have Hst := Lib.hid (Hinv.out.step (k := j) (by omega))
      generalize wr.drewN nd = w2 at *
      obtain ⟨q, hq⟩ : ∃ q, q = (r * 4294967296 + lim zs j) / v := ⟨_, rfl⟩
      obtain ⟨m, hm⟩ : ∃ m, m = (r * 4294967296 + lim zs j) % v := ⟨_, rfl⟩
      rw [← hq] at hdl Hst ⊢
      rw [← hm] at Hst ⊢
      have h3 := how2.cell (k := j) (by omega)
      have h4 := how2.1.frozenAt j
      have Hset := Lib.hid (how2.set j hdl)
      have Hb2 : RowKit.Hid (Below w.heap.size w (w2.setCell ⟨g, j, none⟩ (.int .u32 (q : Int)))) := hb2.setCell (by exact hBg) _
      clear hq hm How Hb Hinv how2 hb2 h2 hz
      go_wp2
      go_roundw
      case rel => exact ⟨j, m, zs.set j q, by omega, by go_num, rfl, Hst, Hset, Hb2⟩
      case measure => simp [intOf] <;> omega

theorem quoSmall_yes {A : Option Addr} {n c : Nat} {xs : List Nat} {a L : Nat} {w : World} (hx : NN w A n c xs a L) (h1 : L ≤ 100000) (v : Nat) (V : Int) (hV : V = v) (hv : v < 4294967296) (h0 : v ≠ 0) :
    Calls Tryd.prog 43 #[.slice A n c, .int .u32 V] w fun e w' => ∃ A1 n1 c1, e = .returned (.tuple #[.slice A1 n1 c1, .int .u32 ((a % v : Nat) : Int), .bool true]) ∧ NN w' A1 n1 c1 (limbs (a / v)) (a / v) L ∧ Below w.heap.size w w' := by
  have Hlt := Lib.hid (lt_pow hx)
  refine (quoSmall_o hx h1 v V hV hv h0).mono ?_
  rintro e w' ⟨A1, n1, c1, rfl, how, hb⟩
  exact ⟨A1, n1, c1, rfl, NN.own how (Nat.lt_of_le_of_lt (Nat.div_le_self _ _) Hlt.out), hb⟩

theorem quoSmall_no {A : Option Addr} {n c : Nat} {xs : List Nat} {a L : Nat} {w : World} (hx : NN w A n c xs a L) (h1 : L ≤ 100000) (V : Int) (hV : V = 0) :
    Calls Tryd.prog 43 #[.slice A n c, .int .u32 V] w fun e w' => ∃ A1 c1, e = .returned (.tuple #[.slice A1 0 c1, .int .u32 0, .bool false]) ∧ Below w.heap.size w w' := by
  subst hV
  go_enter Tryd.func43, Tryd.ntmps43
  go_wp2
  go_ret3
  exact ⟨none, 0, rfl, Below.refl _ _⟩

end Go.Proofs.YtpkjooiddejgpaaDoor
