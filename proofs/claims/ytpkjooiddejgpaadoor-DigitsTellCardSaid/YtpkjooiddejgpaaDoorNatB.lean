/- What math/bits' Add32, Sub32 answer at package nat's carries, and small helpers. Conditions: the arguments are 32-bit words, the carry is 0 or 1. -/
import Derived.Test.YtpkjooiddejgpaaDoorBase
import Derived.Laws.BitsAllLaws
namespace Go.Proofs.YtpkjooiddejgpaaDoor
open Go.RowKit Limb
set_option linter.unusedVariables false

set_option maxHeartbeats 400000 in
theorem add32_any (x y c : Int) (w : World) (hx : 0 ≤ x ∧ x < 4294967296) (hy : 0 ≤ y ∧ y < 4294967296) (hc : 0 ≤ c ∧ c < 4294967296) :
    Calls Tryd.prog 34 #[.int .u32 x, .int .u32 y, .int .u32 c] w fun e w' => e = .returned (.tuple #[.int .u32 ((x + y + c) % 4294967296), .int .u32 ((x + y + c) / 4294967296)]) ∧ w = w' := by
  obtain ⟨hx0, hx1⟩ := hx
  obtain ⟨hy0, hy1⟩ := hy
  obtain ⟨hc0, hc1⟩ := hc
  go_enter Tryd.func34, Tryd.ntmps34
  go_wp2
  go_ret2
  exact ⟨rfl, rfl⟩

/-- The borrow of a difference. -/
def bor (x y c : Int) : Int := if x < y + c then 1 else 0

theorem borrow_eq (x y c : Int) (hx0 : 0 ≤ x) (hx1 : x < 4294967296) (hy0 : 0 ≤ y) (hy1 : y < 4294967296) (hc0 : 0 ≤ c) (hc1 : c ≤ 1) :
    bits BinOp.or IntKind.u32 (bits BinOp.and IntKind.u32 (bits BinOp.xor IntKind.u32 IntKind.u32.max x) y) (bits BinOp.and IntKind.u32 (bits BinOp.xor IntKind.u32 IntKind.u32.max (bits BinOp.xor IntKind.u32 x y)) ((x - y - c) % 4294967296)) / 2147483648 = bor x y c := by
  have hd0 : 0 ≤ (x - y - c) % 4294967296 := Int.emod_nonneg _ (by decide)
  have hd1 : (x - y - c) % 4294967296 < 4294967296 := Int.emod_lt_of_pos _ (by decide)
  have hd2 : (x - y - c) % 4294967296 = x - y - c ∨ (x - y - c) % 4294967296 = x - y - c + 4294967296 := by omega
  obtain ⟨d, hd⟩ : ∃ d, d = (x - y - c) % 4294967296 := ⟨_, rfl⟩
  rw [← hd] at hd0 hd1 hd2 ⊢
  clear hd
  obtain ⟨x, rfl⟩ := Int.eq_ofNat_of_zero_le hx0
  obtain ⟨y, rfl⟩ := Int.eq_ofNat_of_zero_le hy0
  obtain ⟨d, rfl⟩ := Int.eq_ofNat_of_zero_le hd0
  have mx : IntKind.u32.max = ((4294967295 : Nat) : Int) := rfl
  have h1 : (4294967295 : Nat) < 4294967296 := by decide
  have hx : x < 4294967296 := by omega
  have hy : y < 4294967296 := by omega
  have hd : d < 4294967296 := by omega
  rw [mx, u32_xor_nat _ _ h1 hx, u32_and_nat _ _ (lt_xor h1 hx) hy, u32_xor_nat _ _ hx hy, u32_xor_nat _ _ h1 (lt_xor hx hy), u32_and_nat _ _ (lt_xor h1 (lt_xor hx hy)) hd,
    u32_or_nat _ _ (lt_and hy) (lt_and hd)]
  have e := borrow_bits x y d hx hy hd
  have e2 : ((((4294967295 ^^^ x) &&& y) ||| ((4294967295 ^^^ (x ^^^ y)) &&& d) : Nat) : Int) / 2147483648 = (((((4294967295 ^^^ x) &&& y) ||| ((4294967295 ^^^ (x ^^^ y)) &&& d)) / 2147483648 : Nat) : Int) := rfl
  rw [e2, e]
  clear e e2
  unfold bor
  by_cases a1 : 2147483648 ≤ x <;> by_cases a2 : 2147483648 ≤ y <;> by_cases a3 : 2147483648 ≤ d <;> simp [a1, a2, a3] <;> omega

theorem congr_ret {a b c d : Int} (h : a = b) (k : c = d) : Ending.returned (.tuple #[.int .u32 a, .int .u32 c]) = Ending.returned (.tuple #[.int .u32 b, .int .u32 d]) := by rw [h, k]

theorem order_any (b : Bool) (w : World) : Calls Tryd.prog 37 #[.bool b] w fun e w' => e = .returned (.int .i64 (if b then -1 else 1)) ∧ w = w' := by
  cases b
  all_goals
    go_enter Tryd.func37, Tryd.ntmps37
    go_wp2
    go_ret
    exact ⟨rfl, rfl⟩

end Go.Proofs.YtpkjooiddejgpaaDoor
