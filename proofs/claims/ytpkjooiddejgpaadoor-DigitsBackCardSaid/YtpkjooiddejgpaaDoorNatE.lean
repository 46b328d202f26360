/- What package nat's Add answers, as a contract over memory: the sum of the numbers that both lists tell, in its shortest limbs, in new memory. Conditions: both read as limbs, of at most 10^9 of them. -/
import Derived.Test.YtpkjooiddejgpaaDoorNatD
namespace Go.Proofs.YtpkjooiddejgpaaDoor
open Go.RowKit Limb
set_option linter.unusedVariables false

theorem add32_nat (x y c : Nat) (w : World) (hx : x < 4294967296) (hy : y < 4294967296) (hc : c ≤ 1) :
    Calls Tryd.prog 34 #[.int .u32 (x : Int), .int .u32 (y : Int), .int .u32 (c : Int)] w fun e w' => e = .returned (.tuple #[.int .u32 ((sumLo x y c : Nat) : Int), .int .u32 ((sumHi x y c : Nat) : Int)]) ∧ w = w' := by
  refine (add32_any (x : Int) (y : Int) (c : Int) w (by omega) (by omega) (by omega)).mono ?_
  rintro e w' ⟨rfl, rfl⟩
  refine ⟨?_, rfl⟩
  have e1 : ((x : Int) + (y : Int) + (c : Int)) % 4294967296 = ((sumLo x y c : Nat) : Int) := by unfold sumLo; omega
  have e2 : ((x : Int) + (y : Int) + (c : Int)) / 4294967296 = ((sumHi x y c : Nat) : Int) := by unfold sumHi; omega
  rw [e1, e2]

theorem add32_zero (x y c : Nat) (w : World) (hx : x < 4294967296) (hy : y = 0) (hc : c ≤ 1) :
    Calls Tryd.prog 34 #[.int .u32 (x : Int), .int .u32 0, .int .u32 (c : Int)] w fun e w' => e = .returned (.tuple #[.int .u32 ((sumLo x y c : Nat) : Int), .int .u32 ((sumHi x y c : Nat) : Int)]) ∧ w = w' := by
  subst hy
  exact add32_nat x 0 c w hx (by omega) hc

theorem OwnN.addr {w : World} {B : Nat} {A : Option Addr} {n c : Nat} {zs : List Nat} (h : OwnN w B A n c zs) (hn : 0 < n) : ∃ g, A = some ⟨g, 0, none⟩ ∧ B ≤ g ∧ g < w.heap.size := by
  rcases h.1.2 with ⟨_, h0⟩ | ⟨g, cap, cur, hv, hg, hh, _⟩
  · omega
  · injection hv with hA
    refine ⟨g, hA, hg, ?_⟩
    rcases Nat.lt_or_ge g w.heap.size with hlt | hge
    · exact hlt
    · rw [Array.getElem?_eq_none hge] at hh; cases hh

theorem OwnN.cell {w : World} {B g n c : Nat} {zs : List Nat} (h : OwnN w B (some ⟨g, 0, none⟩) n c zs) {k : Nat} (hk : k < n) : w.cell? ⟨g, k, none⟩ = some (.int .u32 ((lim zs k : Nat) : Int)) := by
  have hl := h.len
  rw [h.1.cellAt k (by omega), List.getElem?_map, List.getElem?_eq_getElem (by omega)]
  simp [limV, lim, List.getD_eq_getElem?_getD, List.getElem?_eq_getElem (show k < zs.length by omega)]

theorem OwnN.set {w : World} {B g n c : Nat} {zs : List Nat} (h : OwnN w B (some ⟨g, 0, none⟩) n c zs) (k : Nat) {v : Nat} (hv : v < 4294967296) :
    OwnN (w.setCell ⟨g, k, none⟩ (.int .u32 ((v : Nat) : Int))) B (some ⟨g, 0, none⟩) n c (zs.set k v) := by
  have := (h.1.stored k (limV v)).1
  rw [← List.map_set] at this
  exact ⟨this, small_set h.2 k v hv⟩

theorem OwnN.below {w w' : World} {B C : Nat} {A : Option Addr} {n c : Nat} {zs : List Nat} (h : OwnN w B A n c zs) (hb : Below C w w') (hC : w.heap.size ≤ C) : OwnN w' B A n c zs := by
  refine ⟨⟨h.1.1, ?_⟩, h.2⟩
  rcases h.1.2 with h2 | ⟨g, cap, cur, hv, hg, hh, r⟩
  · exact .inl h2
  · refine .inr ⟨g, cap, cur, hv, hg, ?_, r⟩
    have hlt : g < w.heap.size := by
      rcases Nat.lt_or_ge g w.heap.size with hlt | hge
      · exact hlt
      · rw [Array.getElem?_eq_none hge] at hh; cases hh
    rw [hb.block g (by omega)]
    exact hh

theorem shape_own {w : World} {B : Nat} {v : Value} {n : Nat} {zs : List Nat} (h : w.ownsRow B 39 1 v n (zs.map limV)) (hs : Small zs) : ∃ A c, v = .slice A n c ∧ OwnN w B A n c zs := by
  rcases h.2 with ⟨rfl, rfl⟩ | ⟨g, cap, cur, rfl, hg, r⟩
  · exact ⟨none, 0, rfl, h, hs⟩
  · exact ⟨_, cap, rfl, h, hs⟩

/-- A sum, under a name that no simp set opens. -/
def SumIs (a b t : Nat) : Prop := a + b = t

set_option maxHeartbeats 1000000 in
set_option maxRecDepth 4000 in
theorem add_any (A : Option Addr) (n c : Nat) (xs : List Nat) (A' : Option Addr) (n' c' : Nat) (ys : List Nat) (w : World) (hx : IsN w A n xs) (hy : IsN w A' n' ys) (hm : n ≤ 1000000000) (hm' : n' ≤ 1000000000) (hc : n ≤ c) (hc' : n' ≤ c') :
    Calls Tryd.prog 17 #[.slice A n c, .slice A' n' c'] w fun e w' => ∃ A2 n2 c2, e = .returned (.slice A2 n2 c2) ∧ OwnN w' w.heap.size A2 n2 c2 (limbs (val xs + val ys)) ∧ Below w.heap.size w w' := by
  obtain ⟨i0, hi, hz0, hz1, hz2⟩ := info_parts u32_info
  have hlt := trim_len_le xs
  have hlt' := trim_len_le ys
  have hl := hx.len
  have hl' := hy.len
  have hx' := IsN.take hx (m := (trim xs).length) (by omega)
  rw [← trim_take xs] at hx'
  have hy' := IsN.take hy (m := (trim ys).length) (by omega)
  rw [← trim_take ys] at hy'
  have ex := trim_eq_limbs hx.small
  have ey := trim_eq_limbs hy.small
  have hb : (trim xs).length ≤ 1000000000 := by omega
  have hb' : (trim ys).length ≤ 1000000000 := by omega
  have Hl := Lib.hid ex
  have Hl' := Lib.hid ey
  clear hl hl' ex ey hlt hlt'
  go_enter Tryd.func17, Tryd.ntmps17
  go_wp2_with fail
  refine (cut_any A n c xs w hx hc (by unfold maxLen; omega)).mono ?_
  rintro e w1 ⟨rfl, rfl⟩
  go_wp2_with fail
  refine (cut_any A' n' c' ys w hy hc' (by unfold maxLen; omega)).mono ?_
  rintro e w1 ⟨rfl, rfl⟩
  generalize trim xs = xs' at *
  generalize trim ys = ys' at *
  clear hx hy
  by_cases hlen : xs'.length < ys'.length
  case' pos =>
    have hle : xs'.length ≤ ys'.length := by omega
    have hlen' : decide (((xs'.length : Nat) : Int) < ((ys'.length : Nat) : Int)) = true := by simpa using hlen
    have HT : SumIs (val ys) (val xs) (val xs + val ys) := Nat.add_comm _ _
    obtain ⟨long, e⟩ : ∃ l, l = ys' := ⟨_, rfl⟩
    subst e
    obtain ⟨short, e⟩ : ∃ l, l = xs' := ⟨_, rfl⟩
    subst e
    have hL := hy'
    have hS := hx'
    have hbL := hb'
    have hbS := hb
    have HL := Hl'
    have HS := Hl
    clear hy' hx' hb hb' Hl Hl' hc hc' hm hm'
  case' neg =>
    have hle : ys'.length ≤ xs'.length := by omega
    have hlen' : decide (((xs'.length : Nat) : Int) < ((ys'.length : Nat) : Int)) = false := by simpa using hlen
    clear hlen
    have HT : SumIs (val xs) (val ys) (val xs + val ys) := rfl
    obtain ⟨long, e⟩ : ∃ l, l = xs' := ⟨_, rfl⟩
    subst e
    obtain ⟨short, e⟩ : ∃ l, l = ys' := ⟨_, rfl⟩
    subst e
    have hL := hx'
    have hS := hy'
    have hbL := hb
    have hbS := hb'
    have HL := Hl
    have HS := Hl'
    clear hy' hx' hb hb' Hl Hl' hc hc' hm hm'
  all_goals
    go_wp2_with fail
    refine (copied_any _ _ _ 1 1 long w rfl (Nat.le_refl _) hL hbL).mono ?_
    rintro e w1 ⟨A2, c2, rfl, hown, hbel, _⟩
    have hsmL := hL.small
    have hsmS := hS.small
    go_wp2
    go_loopw [27, 8] (fun i cy wr => ∃ (k cr : Nat) (zs : List Nat), k ≤ short.length ∧ i = .int .i64 (k : Int) ∧ cy = .int .u32 (cr : Int) ∧ AddInv long short zs k cr ∧ OwnN wr w.heap.size A2 long.length c2 zs ∧ Below w.heap.size w wr) (fun i _ _ => short.length - (intOf i).toNat)
    case atStart => exact ⟨0, 0, long, Nat.zero_le _, rfl, rfl, AddInv.start _ _, hown, hbel⟩
    case round =>
      obtain ⟨k, cr, zs, hk, rfl, rfl, hinv, how, hbe⟩ := hrel
      have Hinv := Lib.hid hinv
      clear hinv
      by_cases hks : k < short.length
      · obtain ⟨g, rfl, hBg, hgl⟩ := how.addr (by omega)
        obtain ⟨bs, os, hA, hbs, hcs⟩ := hS.2.2 (by omega)
        subst hA
        have h1 : wr.cell? ⟨bs, os + k, none⟩ = some (.int .u32 ((lim short k : Nat) : Int)) := (hbe.cell (p := ⟨bs, os + k, none⟩) hbs).trans (hcs k hks)
        have h2 := how.cell (k := k) (by omega)
        have h3 := how.1.frozenAt k
        go_wp2_with (go_at_call 34; refine (add32_nat (lim zs k) (lim short k) cr _ (lim_lt how.small k) (lim_lt hsmS k) Hinv.out.2.2.2).mono ?_; rintro e w2 ⟨rfl, rfl⟩)
        go_roundw
        case rel => exact ⟨k + 1, _, _, by omega, by go_num, rfl, Hinv.out.step hsmL hsmS (by omega), how.set k (sumLo_lt _ _ _), hbe.setCell (by exact hBg) _⟩
        case measure => simp [intOf]; omega
      · have hks : k = short.length := by omega
        subst hks
        go_wp2
        go_loopw [11, 8] (fun i cy wr => ∃ (k cr : Nat) (zs : List Nat), short.length ≤ k ∧ k ≤ long.length ∧ i = .int .i64 (k : Int) ∧ cy = .int .u32 (cr : Int) ∧ AddInv long short zs k cr ∧ OwnN wr w.heap.size A2 long.length c2 zs ∧ Below w.heap.size w wr) (fun i _ _ => long.length - (intOf i).toNat)
        case atStart => exact ⟨short.length, cr, zs, Nat.le_refl _, hle, rfl, rfl, Hinv.out, how, hbe⟩
        case round =>
          clear how hbe Hinv
          obtain ⟨k, cr, zs, hk0, hk, rfl, rfl, hinv, how, hbe⟩ := hrel
          have Hinv := Lib.hid hinv
          clear hinv
          by_cases hgo : k < long.length ∧ cr ≠ 0
          · obtain ⟨hkl, hcr⟩ := hgo
            have hcr' : (((cr : Nat) : Int) != 0) = true := by simp; omega
            obtain ⟨g, rfl, hBg, hgl⟩ := how.addr (by omega)
            have h2 := how.cell (k := k) (by omega)
            have h3 := how.1.frozenAt k
            go_wp2_with (go_at_call 34; refine (add32_zero (lim zs k) (lim short k) cr _ (lim_lt how.small k) (lim_of_ge hk0) Hinv.out.2.2.2).mono ?_; rintro e w2 ⟨rfl, rfl⟩)
            go_roundw
            case rel => exact ⟨k + 1, _, _, by omega, by omega, by go_num, rfl, Hinv.out.step hsmL hsmS (by omega), how.set k (sumLo_lt _ _ _), hbe.setCell (by exact hBg) _⟩
            case measure => simp [intOf]; omega
          · have hdone := Lib.hid (Hinv.out.done hk0 hk (by omega))
            have hsz := how.small
            have hlen := Lib.hid Hinv.out.1
            have hc1 : cr ≤ 1 := Hinv.out.2.2.2
            by_cases hcr : cr = 0
            · subst hcr
              have Hf : RowKit.Hid (zs = limbs (val xs + val ys)) := by
                have h := add_fits HL.out HS.out hsz hlen.out (by have := hdone.out; omega)
                unfold SumIs at HT; rw [HT] at h; exact h
              clear hgo
              by_cases hkl : k < long.length
              all_goals
                go_wp2
                go_ret
                exact ⟨_, _, _, rfl, by rw [← Hf.out]; exact how, hbe⟩
            · obtain rfl : cr = 1 := by omega
              have hkl : ¬ k < long.length := by omega
              clear hgo hcr
              have Hf : RowKit.Hid (zs ++ [1] = limbs (val xs + val ys)) := by
                have h := add_carries HL.out HS.out hsz hlen.out (by have := hdone.out; omega)
                unfold SumIs at HT; rw [HT] at h; exact h
              go_wp2_with (at_builtin; refine wpList_append_own _ rfl _ _ 23 rfl w.heap.size 39 i0 (.int .u32 0) 1 4 Tryd.underlying23 hi hz0 hz1 hz2 rfl (by decide) _ _ _ rfl (how.1.alloc _) ⟨wr.heap.size, 0, none⟩ 1 1 [.int .u32 1] rfl rfl ?c1 ?c2 ?c3 ?c4 ?c5 ?_)
              case c1 =>
                intro j u hj
                match j, hj with
                | 0, hj => simp at hj; subst hj; simp [Addr.add]
              case c2 => intro u hu; simp at hu; subst hu; rfl
              case c3 => unfold maxLen; omega
              case c4 => omega
              case c5 => have := hbe.size; simp; omega
              intro v' w3 hown' hgrow _
              have hown2 : w3.ownsRow w.heap.size 39 1 v' (long.length + 1) ((zs ++ [1]).map limV) := by rw [List.map_append]; exact hown'
              rw [Hf.out] at hown2
              obtain ⟨A3, c3, hv, how3⟩ := shape_own hown2 (small_limbs _)
              subst hv
              have hbe3 : Below w.heap.size w w3 := (hbe.alloc hbe.size _).grown hgrow (by have := hbe.size; simp; omega) (fun g hg => (how.1.lt g hg).1)
              clear hown' hgrow hown2 how
              go_wp2
              go_ret
              exact ⟨_, _, _, rfl, how3, hbe3⟩

end Go.Proofs.YtpkjooiddejgpaaDoor
