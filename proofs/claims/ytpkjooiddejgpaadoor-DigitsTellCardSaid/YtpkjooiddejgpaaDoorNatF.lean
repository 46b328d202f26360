/- What package nat's Sub answers, as a contract over memory: the difference, where the first number is not below the second, in its shortest limbs, in new memory; else none. Conditions: both read as limbs, of at most 10^9 of them. -/
import Derived.Test.YtpkjooiddejgpaaDoorNatE
namespace Go.Proofs.YtpkjooiddejgpaaDoor
open Go.RowKit Limb
set_option linter.unusedVariables false

theorem cmp_is (A : Option Addr) (n c : Nat) (xs : List Nat) (A' : Option Addr) (n' c' : Nat) (ys : List Nat) (w : World) (v : Int) (hv : cmpI (val xs) (val ys) = v) (hx : IsN w A n xs) (hy : IsN w A' n' ys) (hm : n ≤ 1000000000) (hm' : n' ≤ 1000000000) (hc : n ≤ c) (hc' : n' ≤ c') :
    Calls Tryd.prog 20 #[.slice A n c, .slice A' n' c'] w fun e w' => e = .returned (.int .i64 v) ∧ Below w.heap.size w w' := by
  subst hv
  exact cmp_any A n c xs A' n' c' ys w hx hy hm hm' hc hc'

theorem OwnN.take {w : World} {B : Nat} {A : Option Addr} {n c m : Nat} {zs : List Nat} (h : OwnN w B A n c zs) (hm : m ≤ n) : OwnN w B A m c (zs.take m) := by
  have hl := h.len
  refine ⟨⟨by simp; omega, ?_⟩, small_take h.2 _⟩
  rcases h.1.2 with ⟨hv, h0⟩ | ⟨g, cap, cur, hv, hg, hh, h1, h2, h3, h4⟩
  · injection hv with hA hn hc
    subst hA hc
    left
    exact ⟨by congr 1; omega, by omega⟩
  · injection hv with hA hn hc
    subst hA hc
    refine .inr ⟨g, c, cur, rfl, hg, hh, by omega, h2, h3, ?_⟩
    rw [List.map_take, ← h4, List.take_take]
    congr 1
    omega

/-- May b be taken from a? -/
def subOk (a b : Nat) : Bool := decide (b ≤ a)

theorem val_trim {xs : List Nat} (h : Small xs) : val (trim xs) = val xs := by rw [trim_eq_limbs h, val_limbs]

end Go.Proofs.YtpkjooiddejgpaaDoor
