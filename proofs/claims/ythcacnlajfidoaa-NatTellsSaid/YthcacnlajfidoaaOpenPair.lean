/- How an argument that is an array of two 64-bit words is opened. No condition. -/
import Derived.Test.YthcacnlajfidoaaOpen
namespace Go.Proofs.Ythcacnlajfidoaa
open Go.ChangeShapes Go.WideShapes Go.ChangeAt Go.RowKit Limb
set_option linter.unusedVariables false

theorem cells_u64 : Try.prog.cellsOf 24 = 1 := by kernel_rfl
theorem cells_pair : Try.prog.cellsOf 25 = 2 := by kernel_rfl

theorem open_pair {H : Type} {enc : TypeId × Value → H} {W : World} {r : Reach} {b0 base : Nat} {sp : Nat → Bool} {held : Bool} {v : Value} {d : DataW H} {p : List MemPlace}
    (hok : Value.okWide Try.prog W r b0 25 v) (h : DataW.Trod enc Try.prog W base sp held 25 v d p) :
    ∃ a b : Int, v = .agg #[.int .u64 a, .int .u64 b] ∧ (Lit.int .u64 a).wf = true ∧ (Lit.int .u64 b).wf = true := by
  simp only [Value.okWide, Try.underlying25] at hok
  obtain ⟨cs, rfl, hsz, _⟩ := hok
  rw [cells_pair] at hsz
  obtain ⟨fuel, hf⟩ := h
  obtain ⟨xs, m, rfl, hx, hlen, hxl, hel⟩ := DataW.trod_array Try.underlying25 hf
  have h0 := hel 0 (by decide)
  have h1 := hel 1 (by decide)
  rw [List.getElem?_eq_getElem (by omega), cells_u64] at h0 h1
  obtain ⟨a, ha, _, wa⟩ := DataW.trod_int Try.underlying24 h0
  obtain ⟨b, hb, _, wb⟩ := DataW.trod_int Try.underlying24 h1
  refine ⟨a, b, ?_, wa, wb⟩
  have e : cs.toList = [.int .u64 a, .int .u64 b] := by
    have h2 : cs.toList.length = 2 := by simpa using hsz
    match hcs : cs.toList, h2 with
    | [c0, c1], _ =>
      simp [Value.cells, hcs] at ha hb
      rw [ha, hb]
  congr 1
  rw [← Array.toArray_toList (xs := cs), e]

theorem wf_u64 {n : Int} (h : (Lit.int .u64 n).wf = true) : 0 ≤ n ∧ n < 18446744073709551616 := by
  have h1 : IntKind.u64.min = 0 := rfl
  have h2 : IntKind.u64.max = 18446744073709551615 := rfl
  simp only [Lit.wf, Bool.and_eq_true, decide_eq_true_eq] at h
  omega

end Go.Proofs.Ythcacnlajfidoaa
