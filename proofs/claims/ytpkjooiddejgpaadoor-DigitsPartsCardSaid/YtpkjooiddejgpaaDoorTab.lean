/- What a row's listed variables give: the table of powers of ten and strconv's sentinel as the contracts ask them. Condition: the variables read as listed. -/
import Derived.Test.YtpkjooiddejgpaaDoorDigA
import Derived.Lib.LaidTab
import Derived.Stop.LaidErr
namespace Go.Proofs.YtpkjooiddejgpaaDoor
open Go.RowKit Go.ChangeShapes
set_option linter.unusedVariables false

theorem laidMet_drop {P : Program} {w : World} : ∀ (k : Nat) {l : List (String × DataW Unit)}, laidMet P l w → laidMet P (l.drop k) w
  | 0, _, h => h
  | _ + 1, [], h => h
  | k + 1, _ :: _, h => laidMet_drop k h.tail

/-- The powers of ten that a limb holds. -/
def tens : List Int := [1, 10, 100, 1000, 10000, 100000, 1000000, 10000000, 100000000, 1000000000]
theorem tens_at : ∀ i, i < 10 → tens.getD i 0 = ((10 ^ i : Nat) : Int) := by decide

theorem powers_tab {W : World} {name : String} {r : List (String × DataW Unit)} (h : laidMet Tryd.prog ((name, Lib.tabData .u32 tens) :: r) W) (hg : Tryd.prog.globalNamed name = some 0) :
    ∀ i, i < 10 → W.cell? ⟨0, i, none⟩ = some (.int .u32 ((10 ^ i : Nat) : Int)) := fun i hi => by
  have hT := Lib.tabIs_of_head hg (t := 48) (by kernel_rfl) Tryd.underlying48 Tryd.underlying39 (by kernel_rfl) (by kernel_rfl) h
  rw [hT.cell hg i hi, tens_at i hi]

theorem err_tab {W : World} {name nm : String} {d : DataW Unit} {r : List (String × DataW Unit)} (h : laidMet Tryd.prog ((name, .iface nm d) :: r) W) (hg : Tryd.prog.globalNamed name = some 1) :
    ∃ te pe, W.cell? ⟨1, 0, none⟩ = some (.iface te pe) := by
  obtain ⟨ps, ⟨g0, t0, cs0, f0, p0, q0, hg0, ht0, hv0, hd0, _, _⟩, _, _⟩ := h
  obtain rfl := Option.some.inj (hg.symm.trans hg0)
  have ht : (Tryd.prog.globals[1]?).map (·.type) = some 45 := by kernel_rfl
  obtain rfl := Option.some.inj (ht.symm.trans ht0)
  obtain ⟨_, u, v, hcs, _⟩ := iface_of_trod Tryd.underlying45 hd0
  have h2 := World.var?_cell hg0 hv0 0
  rw [← Array.getElem?_toList, hcs] at h2
  exact ⟨u, v, by simpa using h2⟩

end Go.Proofs.YtpkjooiddejgpaaDoor
