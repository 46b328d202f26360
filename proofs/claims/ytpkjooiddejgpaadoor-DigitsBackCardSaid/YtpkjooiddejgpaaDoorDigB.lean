/- What the library's bytes.TrimLeft (of noughts) answers, as a contract over memory. Condition: the list reads as bytes. -/
import Derived.Test.YtpkjooiddejgpaaDoorDigA
namespace Go.Proofs.YtpkjooiddejgpaaDoor
open Go.RowKit Limb
set_option linter.unusedVariables false

theorem IsB.nil (w : World) (A : Option Addr) : IsB w A 0 [] := ⟨rfl, bytes_nil, fun h => absurd h (by omega)⟩

set_option maxHeartbeats 2000000 in
set_option maxRecDepth 4000 in
theorem trimByte_c {w : World} {A : Option Addr} {n c : Nat} {zs : List Nat} (h : IsB w A n zs) (hc : n ≤ c) (hm : c ≤ maxLen) :
    Calls Tryd.prog 44 #[.slice A n c, .int .u8 48] w fun e w' => ∃ A2 n2 c2, e = .returned (.slice A2 n2 c2) ∧ IsB w A2 n2 (bare zs) ∧ w' = w := by
  have Hm : RowKit.Hid (c ≤ maxLen) := hm
  have H0 : RowKit.Hid (IsB w A n (zs.drop 0)) := h
  have HL := Lib.hid (Lead.start zs)
  have Hn := Lib.hid h.1
  clear h hm
  go_enter Tryd.func44, Tryd.ntmps44
  go_wp2
  go_loopw [0] (fun sv wr => ∃ (k m cc : Nat) (A1 : Option Addr), sv = .slice A1 m cc ∧ m ≤ cc ∧ RowKit.Hid (k + m = n ∧ k + cc = c) ∧ RowKit.Hid (IsB w A1 m (zs.drop k)) ∧ RowKit.Hid (Lead zs k) ∧ wr = w) (fun sv _ => lenOf sv)
  case atStart => exact ⟨0, n, c, A, rfl, hc, ⟨by omega, by omega⟩, H0, HL, rfl⟩
  case round =>
    clear H0 HL
    obtain ⟨k, m, cc, A1, rfl, hmc, Hk, HI, HL, rfl⟩ := hrel
    by_cases h0 : m = 0
    · subst h0
      have hz : bare zs = [] := HL.out.all (by have h1 := Hk.out.1; have h2 := Hn.out; omega)
      have Hz := Lib.hid hz
      clear hz
      go_wp2
      go_ret
      exact ⟨none, 0, 0, rfl, by rw [Hz.out]; exact IsB.nil _ _, rfl⟩
    · have hpos : (0 : Int) < (m : Int) := by omega
      obtain ⟨b, o, rfl, hb, hcs⟩ := HI.out.2.2 (by omega)
      have hx := hcs 0 (by omega)
      have hkl : k < zs.length := by have := Hk.out.1; have := Hn.out; omega
      have hlim : lim (zs.drop k) 0 = lim zs k := by simp [lim]
      rw [hlim, Nat.add_zero] at hx
      by_cases h48 : lim zs k = 48
      · rw [h48] at hx
        have HL2 := Lib.hid (HL.out.step hkl h48)
        have HI2 : ∀ A2 : Option Addr, (cc ≠ 1 → A2 = some ⟨b, o + 1, none⟩) → IsB wr A2 (m - 1) (zs.drop (k + 1)) := fun A2 hA => by
          refine ⟨by rw [List.length_drop]; have h1 := Hk.out.1; have h2 := Hn.out; omega, ?_, fun hp => ?_⟩
          · have := bytes_drop HI.out.2.1 1
            rwa [List.drop_drop] at this
          · refine ⟨b, o + 1, hA (by omega), hb, fun j hj => ?_⟩
            have h3 := hcs (j + 1) (by omega)
            rw [show o + 1 + j = o + (j + 1) by omega, h3]
            have e : lim (zs.drop k) (j + 1) = lim (zs.drop (k + 1)) j := by
              simp only [lim, List.getD_eq_getElem?_getD, List.getElem?_drop]
              rw [show k + (j + 1) = k + 1 + j by omega]
            rw [e]
        have HI3 := Lib.hid HI2
        clear HI2 hcs hlim HI HL
        go_wp2
        go_roundw
        case rel => exact ⟨k + 1, m - 1, cc - 1, _, rfl, by omega, ⟨by have h1 := Hk.out; omega, by have h1 := Hk.out; omega⟩, HI3.out _ (fun hc1 => if_neg hc1), HL2, trivial⟩
        case measure => simp only [lenOf]; omega
      · have hne : ((lim zs k : Nat) : Int) ≠ 48 := by omega
        obtain ⟨d, hd⟩ : ∃ d, lim zs k = d := ⟨_, rfl⟩
        rw [hd] at hx hne
        have hq : ((d : Int) == 48) = false := by simp; omega
        have Hd := Lib.hid (HL.out.done hkl h48)
        have hm0 : ((m : Int) == 0) = false := by simp; omega
        clear hcs hlim
        go_wp2
        go_ret
        exact ⟨_, m, cc, rfl, by rw [Hd.out]; exact HI.out, rfl⟩

set_option maxHeartbeats 2000000 in
set_option maxRecDepth 4000 in
/-- bytes.TrimLeft(s, "0"): without noughts ahead; nothing lies otherwise. -/
theorem trim0_c {w : World} {A : Option Addr} {n c : Nat} {zs : List Nat} (h : IsB w A n zs) (hc : n ≤ c) (hm : c ≤ maxLen) :
    Calls Tryd.prog 30 #[.slice A n c, .string ⟨#[48]⟩] w fun e w' => ∃ A2 n2 c2, e = .returned (.slice A2 n2 c2) ∧ IsB w A2 n2 (bare zs) ∧ w' = w := by
  have HC := Lib.hid (trimByte_c h hc hm)
  have Hz : RowKit.Hid (n = 0 → zs = []) := fun h0 => List.eq_nil_of_length_eq_zero (by rw [h.1, h0])
  clear h
  by_cases h0 : n = 0
  · subst h0
    have HZ : RowKit.Hid (IsB w none 0 (bare zs)) := by show IsB _ _ _ _; rw [Hz.out rfl]; exact IsB.nil _ _
    clear Hz HC
    go_enter Tryd.func30, Tryd.ntmps30
    go_wp2
    go_ret
    exact ⟨none, 0, 0, rfl, HZ.out, rfl⟩
  · have hn0 : ((n : Int) == 0) = false := by simp; omega
    go_enter Tryd.func30, Tryd.ntmps30
    go_wp2_with fail
    refine HC.out.mono ?_
    rintro e w1 ⟨A2, n2, c2, rfl, h2, rfl⟩
    have H2 := Lib.hid h2
    clear h2
    go_wp2
    go_ret
    exact ⟨A2, n2, c2, rfl, H2.out, rfl⟩

end Go.Proofs.YtpkjooiddejgpaaDoor
