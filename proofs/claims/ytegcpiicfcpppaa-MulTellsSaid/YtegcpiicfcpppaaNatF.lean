/- What package nat's Sub answers, as a contract over memory: the difference, where the first number is not below the second, in its shortest limbs, in new memory; else none. Conditions: both read as limbs, of at most 10^9 of them. -/
import Derived.Test.YtegcpiicfcpppaaNatE
namespace Go.Proofs.Ytegcpiicfcpppaa
open Go.RowKit Limb
set_option linter.unusedVariables false

theorem sub32_nat (x y c : Nat) (w : World) (hx : x < 4294967296) (hy : y < 4294967296) (hc : c ≤ 1) :
    Calls Try.prog 40 #[.int .u32 (x : Int), .int .u32 (y : Int), .int .u32 (c : Int)] w fun e w' => e = .returned (.tuple #[.int .u32 ((diffLo x y c : Nat) : Int), .int .u32 ((diffHi x y c : Nat) : Int)]) ∧ w = w' := by
  refine (sub32_any (x : Int) (y : Int) (c : Int) w (by omega) (by omega) (by omega)).mono ?_
  rintro e w' ⟨rfl, rfl⟩
  refine ⟨?_, rfl⟩
  have e1 : ((x : Int) - (y : Int) - (c : Int)) % 4294967296 = ((diffLo x y c : Nat) : Int) := by unfold diffLo; omega
  have e2 : bor (x : Int) (y : Int) (c : Int) = ((diffHi x y c : Nat) : Int) := by
    unfold bor diffHi
    by_cases h : x < y + c
    · rw [if_pos h, if_pos (by omega)]; rfl
    · rw [if_neg h, if_neg (by omega)]; rfl
  rw [e1, e2]

theorem sub32_zero (x y c : Nat) (w : World) (hx : x < 4294967296) (hy : y = 0) (hc : c ≤ 1) :
    Calls Try.prog 40 #[.int .u32 (x : Int), .int .u32 0, .int .u32 (c : Int)] w fun e w' => e = .returned (.tuple #[.int .u32 ((diffLo x y c : Nat) : Int), .int .u32 ((diffHi x y c : Nat) : Int)]) ∧ w = w' := by
  subst hy
  exact sub32_nat x 0 c w hx (by omega) hc

theorem cmp_is (A : Option Addr) (n c : Nat) (xs : List Nat) (A' : Option Addr) (n' c' : Nat) (ys : List Nat) (w : World) (v : Int) (hv : cmpI (val xs) (val ys) = v) (hx : IsN w A n xs) (hy : IsN w A' n' ys) (hm : n ≤ 1000000000) (hm' : n' ≤ 1000000000) (hc : n ≤ c) (hc' : n' ≤ c') :
    Calls Try.prog 23 #[.slice A n c, .slice A' n' c'] w fun e w' => e = .returned (.int .i64 v) ∧ Below w.heap.size w w' := by
  subst hv
  exact cmp_any A n c xs A' n' c' ys w hx hy hm hm' hc hc'

theorem OwnN.take {w : World} {B : Nat} {A : Option Addr} {n c m : Nat} {zs : List Nat} (h : OwnN w B A n c zs) (hm : m ≤ n) : OwnN w B A m c (zs.take m) := by
  have hl := h.len
  refine ⟨⟨by simp; omega, ?_⟩, small_take h.2 _⟩
  rcases h.1.2 with ⟨hv, h0⟩ | ⟨g, cap, cur, hv, hg, hh, h1, h2, h3, h4⟩
  · injection hv with hA hn hc
    subst hA hc
    left
    exact ⟨by congr 1; omega, by omega⟩
  · injection hv with hA hn hc
    subst hA hc
    refine .inr ⟨g, c, cur, rfl, hg, hh, by omega, h2, h3, ?_⟩
    rw [List.map_take, ← h4, List.take_take]
    congr 1
    omega

/-- May b be taken from a? -/
def subOk (a b : Nat) : Bool := decide (b ≤ a)

theorem val_trim {xs : List Nat} (h : Small xs) : val (trim xs) = val xs := by rw [trim_eq_limbs h, val_limbs]

set_option maxHeartbeats 1000000 in
theorem sub_any (A : Option Addr) (n c : Nat) (xs : List Nat) (A' : Option Addr) (n' c' : Nat) (ys : List Nat) (w : World) (hx : IsN w A n xs) (hy : IsN w A' n' ys) (hm : n ≤ 1000000000) (hm' : n' ≤ 1000000000) (hc : n ≤ c) (hc' : n' ≤ c') :
    Calls Try.prog 24 #[.slice A n c, .slice A' n' c'] w fun e w' => ∃ A2 n2 c2, e = .returned (.tuple #[.slice A2 n2 c2, .bool (subOk (val xs) (val ys))]) ∧ OwnN w' w.heap.size A2 n2 c2 (limbs (val xs - val ys)) ∧ Below w.heap.size w w' := by
  have hlt := trim_len_le xs
  have hlt' := trim_len_le ys
  have hl := hx.len
  have hl' := hy.len
  have hx' := IsN.take hx (m := (trim xs).length) (by omega)
  rw [← trim_take xs] at hx'
  have hy' := IsN.take hy (m := (trim ys).length) (by omega)
  rw [← trim_take ys] at hy'
  have ex := trim_eq_limbs hx.small
  have ey := trim_eq_limbs hy.small
  have vx := val_trim hx.small
  have vy := val_trim hy.small
  have hb : (trim xs).length ≤ 1000000000 := by omega
  have hb' : (trim ys).length ≤ 1000000000 := by omega
  have hcx : (trim xs).length ≤ c := by omega
  have hcy : (trim ys).length ≤ c' := by omega
  have Hl := Lib.hid ex
  have Hl' := Lib.hid ey
  have Vx := Lib.hid vx
  have Vy := Lib.hid vy
  clear hl hl' ex ey hlt hlt' vx vy
  rcases Nat.lt_trichotomy (val xs) (val ys) with hab | hab | hab
  · have Hok : RowKit.Hid (subOk (val xs) (val ys) = false) := by show _ = _; simp [subOk]; omega
    have Hz : RowKit.Hid (limbs (val xs - val ys) = []) := by show _ = _; rw [Nat.sub_eq_zero_of_le (by omega), limbs_zero]
    have hcv := Lib.hid (show cmpI (val (trim xs)) (val (trim ys)) = -1 by rw [Vx.out, Vy.out]; exact cmpI_lt hab)
    go_enter Try.func24, Try.ntmps24
    go_wp2_with fail
    refine (cut_any A n c xs w hx hc (by unfold maxLen; omega)).mono ?_
    rintro e w1 ⟨rfl, rfl⟩
    go_wp2_with fail
    refine (cut_any A' n' c' ys w hy hc' (by unfold maxLen; omega)).mono ?_
    rintro e w1 ⟨rfl, rfl⟩
    go_wp2_with fail
    refine (cmp_is A (trim xs).length c (trim xs) A' (trim ys).length c' (trim ys) w (-1) hcv.out hx' hy' hb hb' hcx hcy).mono ?_
    rintro e w1 ⟨rfl, hbel⟩
    go_wp2
    go_ret2
    exact ⟨none, 0, 0, by rw [Hok.out]; rfl, by rw [Hz.out]; exact OwnN.nil _ _, hbel⟩
  · have Hok : RowKit.Hid (subOk (val xs) (val ys) = true) := by show _ = _; simp [subOk]; omega
    have Hz : RowKit.Hid (limbs (val xs - val ys) = []) := by show _ = _; rw [Nat.sub_eq_zero_of_le (by omega), limbs_zero]
    have hcv := Lib.hid (show cmpI (val (trim xs)) (val (trim ys)) = 0 by rw [Vx.out, Vy.out, hab]; exact cmpI_eq _)
    have Hab := Lib.hid hab
    clear hab
    go_enter Try.func24, Try.ntmps24
    go_wp2_with fail
    refine (cut_any A n c xs w hx hc (by unfold maxLen; omega)).mono ?_
    rintro e w1 ⟨rfl, rfl⟩
    go_wp2_with fail
    refine (cut_any A' n' c' ys w hy hc' (by unfold maxLen; omega)).mono ?_
    rintro e w1 ⟨rfl, rfl⟩
    go_wp2_with fail
    refine (cmp_is A (trim xs).length c (trim xs) A' (trim ys).length c' (trim ys) w 0 hcv.out hx' hy' hb hb' hcx hcy).mono ?_
    rintro e w1 ⟨rfl, hbel⟩
    go_wp2
    go_ret2
    exact ⟨none, 0, 0, by rw [Hok.out]; rfl, by rw [Hz.out]; exact OwnN.nil _ _, hbel⟩
  · have Hok : RowKit.Hid (subOk (val xs) (val ys) = true) := by show _ = _; simp [subOk]; omega
    have hcv := Lib.hid (show cmpI (val (trim xs)) (val (trim ys)) = 1 by rw [Vx.out, Vy.out]; exact cmpI_gt hab)
    have Hab := Lib.hid hab
    clear hab
    go_enter Try.func24, Try.ntmps24
    go_wp2_with fail
    refine (cut_any A n c xs w hx hc (by unfold maxLen; omega)).mono ?_
    rintro e w1 ⟨rfl, rfl⟩
    go_wp2_with fail
    refine (cut_any A' n' c' ys w hy hc' (by unfold maxLen; omega)).mono ?_
    rintro e w1 ⟨rfl, rfl⟩
    go_wp2_with fail
    refine (cmp_is A (trim xs).length c (trim xs) A' (trim ys).length c' (trim ys) w 1 hcv.out hx' hy' hb hb' hcx hcy).mono ?_
    rintro e w1 ⟨rfl, hbel⟩
    have hx1 := IsN.below hx' hbel
    have hy1 := IsN.below hy' hbel
    clear hx hy hx' hy'
    generalize trim xs = long at *
    generalize trim ys = short at *
    have hle : short.length ≤ long.length := by rw [Hl.out, Hl'.out]; exact length_limbs_mono (by have := Hab.out; omega)
    have hvle := Lib.hid (show val short ≤ val long by rw [Vx.out, Vy.out]; have := Hab.out; omega)
    have hsmL := hx1.small
    have hsmS := hy1.small
    go_wp2_with fail
    refine (copied_any A long.length c 0 0 long w1 rfl (by omega) hx1 hb).mono ?_
    rintro e w2 ⟨A2, c2, rfl, hown, hbel2, _⟩
    have hbs := hbel.size
    go_wp2
    go_loopw [27, 8] (fun i cy wr => ∃ (k cr : Nat) (zs : List Nat), k ≤ short.length ∧ i = .int .i64 (k : Int) ∧ cy = .int .u32 (cr : Int) ∧ SubInv long short zs k cr ∧ OwnN wr w1.heap.size A2 long.length c2 zs ∧ Below w1.heap.size w1 wr) (fun i _ _ => short.length - (intOf i).toNat)
    case atStart => exact ⟨0, 0, long, Nat.zero_le _, rfl, rfl, SubInv.start _ _, hown, hbel2⟩
    case round =>
      obtain ⟨k, cr, zs, hk, rfl, rfl, hinv, how, hbe⟩ := hrel
      have Hinv := Lib.hid hinv
      clear hinv
      by_cases hks : k < short.length
      · obtain ⟨g, rfl, hBg, hgl⟩ := how.addr (by omega)
        obtain ⟨bs, os, hA, hbs, hcs⟩ := hy1.2.2 (by omega)
        subst hA
        have h1 : wr.cell? ⟨bs, os + k, none⟩ = some (.int .u32 ((lim short k : Nat) : Int)) := (hbe.cell (p := ⟨bs, os + k, none⟩) hbs).trans (hcs k hks)
        have h2 := how.cell (k := k) (by omega)
        have h3 := how.1.frozenAt k
        go_wp2_with (go_at_call 40; refine (sub32_nat (lim zs k) (lim short k) cr _ (lim_lt how.small k) (lim_lt hsmS k) Hinv.out.2.2.2).mono ?_; rintro e w2 ⟨rfl, rfl⟩)
        go_roundw
        case rel => exact ⟨k + 1, _, _, by omega, by go_num, rfl, Hinv.out.step hsmL hsmS (by omega), how.set k (diffLo_lt _ _ _), hbe.setCell (by exact hBg) _⟩
        case measure => simp [intOf]; omega
      · have hks : k = short.length := by omega
        subst hks
        go_wp2
        go_loopw [11, 8] (fun i cy wr => ∃ (k cr : Nat) (zs : List Nat), short.length ≤ k ∧ k ≤ long.length ∧ i = .int .i64 (k : Int) ∧ cy = .int .u32 (cr : Int) ∧ SubInv long short zs k cr ∧ OwnN wr w1.heap.size A2 long.length c2 zs ∧ Below w1.heap.size w1 wr) (fun i _ _ => long.length - (intOf i).toNat)
        case atStart => exact ⟨short.length, cr, zs, Nat.le_refl _, hle, rfl, rfl, Hinv.out, how, hbe⟩
        case round =>
          clear how hbe Hinv
          obtain ⟨k, cr, zs, hk0, hk, rfl, rfl, hinv, how, hbe⟩ := hrel
          have Hinv := Lib.hid hinv
          clear hinv
          have hcr1 : cr ≤ 1 := Hinv.out.2.2.2
          by_cases hcr : cr = 0
          · subst hcr
            have hv := Lib.hid (Hinv.out.done hk0 hk)
            have hzl := how.len
            have ht := trim_len_le zs
            have how2 := how.take (m := (trim zs).length) (by omega)
            rw [← trim_take zs] at how2
            have Hf : RowKit.Hid (trim zs = limbs (val xs - val ys)) := by
              show _ = _
              rw [trim_eq_limbs how.small, hv.out, Vx.out, Vy.out]
            have hcap := how.caps
            have hn := how.isN
            go_wp2_with fail
            refine (cut_any A2 long.length c2 zs _ hn hcap.1 (by unfold maxLen; omega)).mono ?_
            rintro e w3 ⟨rfl, rfl⟩
            go_wp2
            go_ret2
            refine ⟨A2, (trim zs).length, c2, by rw [Hok.out]; rfl, ?_, hbel.trans (hbe.mono hbs)⟩
            rw [← Hf.out]
            exact how2.mono hbs
          · have hkl := Hinv.out.room how.small hk0 hk hvle.out hcr
            have hcr' : (((cr : Nat) : Int) != 0) = true := by simp; omega
            obtain ⟨g, rfl, hBg, hgl⟩ := how.addr (by omega)
            have h2 := how.cell (k := k) (by omega)
            have h3 := how.1.frozenAt k
            go_wp2_with (go_at_call 40; refine (sub32_zero (lim zs k) (lim short k) cr _ (lim_lt how.small k) (lim_of_ge hk0) Hinv.out.2.2.2).mono ?_; rintro e w2 ⟨rfl, rfl⟩)
            go_roundw
            case rel => exact ⟨k + 1, _, _, by omega, by omega, by go_num, rfl, Hinv.out.step hsmL hsmS (by omega), how.set k (diffLo_lt _ _ _), hbe.setCell (by exact hBg) _⟩
            case measure => simp [intOf]; omega

end Go.Proofs.Ytegcpiicfcpppaa
