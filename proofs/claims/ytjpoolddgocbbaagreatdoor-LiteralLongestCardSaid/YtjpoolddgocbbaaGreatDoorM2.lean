/- Part 2 of the texts that the statements of this seat lean on: mathematics, and what functions answer, as contracts over memory; each part says its own conditions. -/
import Derived.Test.YtjpoolddgocbbaaGreatDoorM1
import Derived.Maps.AppendAt
import Derived.BigQuiet
import Derived.Deep.QuietTactic
/- The contracts of package nat and of the statements' helpers in one form: a slice reads as limbs that tell a number, within its capacity and a known length; answers are in the shortest limbs. Conditions: at most 10^9 limbs. -/
namespace Go.Proofs.YtjpoolddgocbbaaGreatDoor
open Go.RowKit Limb
set_option linter.unusedVariables false

/-- The slice at A reads as the limbs xs, which tell a; at most L of them. -/
structure NN (w : World) (A : Option Addr) (n c : Nat) (xs : List Nat) (a L : Nat) : Prop where
  isN : IsN w A n xs
  val : Limb.val xs = a
  cap : n ≤ c
  le : n ≤ L

theorem NN.below {w w' : World} {A : Option Addr} {n c : Nat} {xs : List Nat} {a L : Nat} (h : NN w A n c xs a L) (hb : Below w.heap.size w w') : NN w' A n c xs a L := ⟨h.isN.below hb, h.val, h.cap, h.le⟩

theorem lt_pow {w : World} {A : Option Addr} {n c : Nat} {xs : List Nat} {a L : Nat} (h : NN w A n c xs a L) : a < 4294967296 ^ L := by
  have := val_lt h.isN.small
  rw [h.val, h.isN.len] at this
  exact Nat.lt_of_lt_of_le this (Nat.pow_le_pow_right (by decide) h.le)

theorem blen_NN {w : World} {A : Option Addr} {n c : Nat} {xs : List Nat} {a L : Nat} (h : NN w A n c xs a L) : blen a ≤ 32 * L := by
  have := lt_pow h
  rw [pow32] at this
  exact blen_le this

theorem NN.own {w : World} {B : Nat} {A : Option Addr} {n c a L : Nat} (h : OwnN w B A n c (limbs a)) (hl : a < 4294967296 ^ L) : NN w A n c (limbs a) a L :=
  ⟨h.isN, val_limbs a, h.caps.1, by have := length_limbs_le hl; rw [h.len] at this; exact this⟩

theorem NN.relax {w : World} {A : Option Addr} {n c a L L' : Nat} (h : NN w A n c (limbs a) a L) (hl : a < 4294967296 ^ L') : NN w A n c (limbs a) a L' :=
  ⟨h.isN, h.val, h.cap, by have := length_limbs_le hl; rw [h.isN.len] at this; exact this⟩

theorem limbs_of_NN {w : World} {A : Option Addr} {n c : Nat} {xs : List Nat} {a L : Nat} (h : NN w A n c xs a L) : trim xs = limbs a := by rw [trim_eq_limbs h.isN.small, h.val]

section
variable {w : World} {A A' : Option Addr} {n c n' c' : Nat} {xs ys : List Nat} {a b L L' : Nat}

theorem add_c (hx : NN w A n c xs a L) (hy : NN w A' n' c' ys b L') (K : Nat) (h1 : L < K) (h2 : L' < K) (h3 : K ≤ 1000000000) :
    Calls Tryz.prog 48 #[.slice A n c, .slice A' n' c'] w fun e w' => ∃ A2 n2 c2, e = .returned (.slice A2 n2 c2) ∧ NN w' A2 n2 c2 (limbs (a + b)) (a + b) K ∧ Below w.heap.size w w' := by
  have hlx := lt_pow hx
  have hly := lt_pow hy
  refine (add_any A n c xs A' n' c' ys w hx.isN hy.isN (by have := hx.le; omega) (by have := hy.le; omega) hx.cap hy.cap).mono ?_
  rintro e w' ⟨A2, n2, c2, rfl, how, hb⟩
  rw [hx.val, hy.val] at how
  refine ⟨A2, n2, c2, rfl, NN.own how ?_, hb⟩
  have e1 : 4294967296 ^ L ≤ 4294967296 ^ (K - 1) := Nat.pow_le_pow_right (by decide) (by omega)
  have e2 : 4294967296 ^ L' ≤ 4294967296 ^ (K - 1) := Nat.pow_le_pow_right (by decide) (by omega)
  have e3 : 4294967296 ^ K = 4294967296 ^ (K - 1) * 4294967296 := by rw [← Nat.pow_succ]; congr 1; omega
  omega

theorem sub_c (hx : NN w A n c xs a L) (hy : NN w A' n' c' ys b L') (h1 : L ≤ 1000000000) (h2 : L' ≤ 1000000000) :
    Calls Tryz.prog 73 #[.slice A n c, .slice A' n' c'] w fun e w' => ∃ A2 n2 c2, e = .returned (.tuple #[.slice A2 n2 c2, .bool (subOk a b)]) ∧ NN w' A2 n2 c2 (limbs (a - b)) (a - b) L ∧ Below w.heap.size w w' := by
  have hlx := lt_pow hx
  refine (sub_any A n c xs A' n' c' ys w hx.isN hy.isN (by have := hx.le; omega) (by have := hy.le; omega) hx.cap hy.cap).mono ?_
  rintro e w' ⟨A2, n2, c2, rfl, how, hb⟩
  rw [hx.val, hy.val] at how ⊢
  exact ⟨A2, n2, c2, rfl, NN.own how (by omega), hb⟩

theorem sub_yes (hx : NN w A n c xs a L) (hy : NN w A' n' c' ys b L') (h1 : L ≤ 1000000000) (h2 : L' ≤ 1000000000) (h : b ≤ a) :
    Calls Tryz.prog 73 #[.slice A n c, .slice A' n' c'] w fun e w' => ∃ A2 n2 c2, e = .returned (.tuple #[.slice A2 n2 c2, .bool true]) ∧ NN w' A2 n2 c2 (limbs (a - b)) (a - b) L ∧ Below w.heap.size w w' := by
  have := sub_c hx hy h1 h2
  rwa [show subOk a b = true by simp [subOk, h]] at this

theorem sub_no (hx : NN w A n c xs a L) (hy : NN w A' n' c' ys b L') (h1 : L ≤ 1000000000) (h2 : L' ≤ 1000000000) (h : a < b) :
    Calls Tryz.prog 73 #[.slice A n c, .slice A' n' c'] w fun e w' => ∃ A2 n2 c2, e = .returned (.tuple #[.slice A2 n2 c2, .bool false]) ∧ NN w' A2 n2 c2 [] 0 L ∧ Below w.heap.size w w' := by
  have h0 := sub_c hx hy h1 h2
  rw [show subOk a b = false by simp [subOk]; omega, show a - b = 0 by omega, limbs_zero] at h0
  exact h0

theorem cmp_c (hx : NN w A n c xs a L) (hy : NN w A' n' c' ys b L') (h1 : L ≤ 1000000000) (h2 : L' ≤ 1000000000) (v : Int) (hv : cmpI a b = v) :
    Calls Tryz.prog 66 #[.slice A n c, .slice A' n' c'] w fun e w' => e = .returned (.int .i64 v) ∧ Below w.heap.size w w' :=
  cmp_is A n c xs A' n' c' ys w v (by rw [hx.val, hy.val, hv]) hx.isN hy.isN (by have := hx.le; omega) (by have := hy.le; omega) hx.cap hy.cap

theorem bits_c (hx : NN w A n c xs a L) (h1 : L ≤ 1000000000) (v : Int) (hv : ((blen a : Nat) : Int) = v) :
    Calls Tryz.prog 68 #[.slice A n c] w fun e w' => e = .returned (.int .i64 v) ∧ w = w' := by
  have := bits_any A n c xs w hx.isN hx.cap (by have := hx.le; omega)
  rwa [hx.val, hv] at this

theorem trim_c (hx : NN w A n c xs a L) (h1 : L ≤ 1000000000) :
    Calls Tryz.prog 63 #[.slice A n c] w fun e w' => ∃ A2 n2 c2, e = .returned (.slice A2 n2 c2) ∧ NN w' A2 n2 c2 (limbs a) a L ∧ Below w.heap.size w w' := by
  refine (trim_any A n c xs w hx.isN hx.cap (by have := hx.le; omega)).mono ?_
  rintro e w' ⟨A2, n2, c2, rfl, how, hb⟩
  rw [limbs_of_NN hx] at how
  exact ⟨A2, n2, c2, rfl, NN.own how (lt_pow hx), hb⟩

theorem keep_c (hx : NN w A n c xs a L) (hy : NN w A' n' c' ys b L') (h1 : L ≤ 1000000000) (h2 : L' ≤ 1000000000) (v : Bool) (hv : same xs ys = v) :
    Calls Tryz.prog 35 #[.slice A n c, .slice A' n' c'] w fun e w' => e = .returned (.bool v) ∧ Below w.heap.size w w' := by
  have := keepNat_any A n c xs A' n' c' ys w hx.isN hy.isN (by have := hx.le; omega) (by have := hy.le; omega)
  rwa [hv] at this

theorem same_self (xs : List Nat) : same xs xs = true := by simp [same]
theorem same_of (h : xs = ys) : same xs ys = true := by simp [same, h]
theorem same_limbs_ne (h : a ≠ b) : same (limbs a) (limbs b) = false := by
  unfold same; rw [decide_eq_false_iff_not]; exact fun e => h (limbs_inj e)
theorem cmpI_same (h : a = b) : cmpI a b = 0 := by subst h; exact cmpI_eq _
theorem same_limbs (h : a = b) : same (limbs a) (limbs b) = true := by simp [same, h]
end

theorem of_c (v : Nat) (V : Int) (hV : V = v) (h : v < 18446744073709551616) (w : World) :
    Calls Tryz.prog 37 #[.int .u64 V] w fun e w' => ∃ A2 n2 c2, e = .returned (.slice A2 n2 c2) ∧ NN w' A2 n2 c2 (limbs v) v 2 ∧ Below w.heap.size w w' := by
  subst hV
  refine (of_any (v : Int) w (by omega) (by omega)).mono ?_
  rintro e w' ⟨A2, n2, c2, rfl, how, hb⟩
  rw [Int.toNat_natCast] at how
  exact ⟨A2, n2, c2, rfl, NN.own how (by omega), hb⟩

theorem lit_c (w : World) (zs : List Nat) (h : Small zs) (n : Nat) (hn : zs.length = n) : NN (w.alloc (.cells (zs.map limV).toArray 38)) (some ⟨w.heap.size, 0, none⟩) n n zs (Limb.val zs) n := by
  subst hn
  exact ⟨isN_lit w zs h, rfl, Nat.le_refl _, Nat.le_refl _⟩

theorem below_new (w : World) (o : Obj) : Below w.heap.size w (w.alloc o) := (Below.refl _ _).alloc (Nat.le_refl _) o

theorem below_two {w w1 w2 : World} (h : Below w.heap.size w w1) (k : Below w1.heap.size w1 w2) : Below w.heap.size w w2 := h.trans (k.mono h.size)

section
variable {P : Program}
theorem run_append_nothing (w : World) (base : Nat) (t ty e : TypeId) (i : TypeInfo) (size : Nat) (ht : P.underlying t = some (.slice e)) (hi : P.info? e = some i)
    (v : Value) (n : Nat) (xs : List Value) (hown : w.ownsRow base e size v n xs) (c : Nat) : (Builtin.append_ #[t, t] ty #[v, .slice none 0 c]).run P w = .ok v w := by
  rcases hown.2 with ⟨rfl, rfl⟩ | ⟨g, cap, cur, rfl, _, _, hnc, _⟩
  · simp [Builtin.append_, run_underlying ht, sizeOf, typeInfo, hi, Builtin.lenOf, Builtin.firstCells]
  · simp [Builtin.append_, run_underlying ht, sizeOf, typeInfo, hi, Builtin.lenOf, Builtin.firstCells, hnc, storeCells]

/-- append of a list that reads from wherever, nil too, to a row of the call's own: elements of one cell. -/
theorem wpList_append_read {w : World} {ops : Array Oper} {rest : List Oper} {o : Oper} {a : Act} {Q : Exit → Act → World → Prop} (hgd : o.guard = none) (s x : Operand) (t : TypeId)
    (ho : o.op = .call { callee := .builtin .append, args := #[s, x], argTypes := #[t, t] })
    (base : Nat) (e : TypeId) (i : TypeInfo) (z : Value) (bytes : Nat) (ht : P.underlying t = some (.slice e)) (hi : P.info? e = some i) (hz : i.zero = some z)
    (hsize : i.size = 1) (hby : i.bytes = bytes) (hzs : z.cells.size = 1)
    (v : Value) (n : Nat) (xs : List Value) (hs : a.eval s = v) (hown : w.ownsRow base e 1 v n xs)
    (A : Option Addr) (m c : Nat) (news : List Value) (hx : a.eval x = .slice A m c) (hl : news.length = m)
    (hnews : 0 < m → ∃ ad, A = some ad ∧ ∀ j u, news[j]? = some u → w.cell? (ad.add j) = some u) (h1 : ∀ u ∈ news, u.oneCell' = true)
    (h63 : n + m ≤ maxLen) (hbytes : (n + m) * bytes ≤ 140737488355328) (hbase : base ≤ w.heap.size)
    (h : ∀ v' w', w'.ownsRow base e 1 v' (n + m) (xs ++ news) → w.grownBy w' v.ownBlock → wpList P ops Q rest (a.put o.dst v') w') : wpList P ops Q (o :: rest) a w := by
  rcases A with _ | ad
  · have hm : m = 0 := by
      rcases Nat.eq_zero_or_pos m with h0 | h0
      · exact h0
      · obtain ⟨ad, hA, _⟩ := hnews h0; cases hA
    subst hm
    have hnw : news = [] := List.eq_nil_of_length_eq_zero hl
    subst hnw
    refine wpList_plain hgd fun K hK => ?_
    have hrun := run_append_nothing (P := P) w base t o.type e i 1 ht hi v n xs hown c
    unfold Oper.wp execOp
    simp only [ho, resolve, invoke, builtin, Sem.run_bind, Sem.run_pure, Result.andThen_ok, List.map_toArray, List.map_cons, List.map_nil, hs, hx, hrun]
    exact hK _ _ (h v w (by simpa using hown) (World.grownBy.refl w _))
  · refine wpList_append_own w hgd s x t ho base e i z 1 bytes ht hi hz hsize hby hzs (by decide) v n xs hs hown ad m c news hx (by omega) ?_ h1 h63 hbytes hbase (fun v' w' a b _ => h v' w' a b)
    intro j u hu
    have hj : j < news.length := by
      rcases Nat.lt_or_ge j news.length with h0 | h0
      · exact h0
      · rw [List.getElem?_eq_none h0] at hu; cases hu
    obtain ⟨ad', hA, hc⟩ := hnews (by omega)
    injection hA with hA
    subst hA
    exact hc j u hu
end

theorem NN.news {w : World} {A : Option Addr} {n c : Nat} {xs : List Nat} {a L : Nat} (h : NN w A n c xs a L) : 0 < n → ∃ ad, A = some ad ∧ ∀ j u, (xs.map limV)[j]? = some u → w.cell? (ad.add j) = some u := by
  intro hn
  obtain ⟨b, o, rfl, hb, hcell⟩ := h.isN.2.2 hn
  refine ⟨_, rfl, fun j u hu => ?_⟩
  obtain ⟨hj, rfl⟩ := map_u32_get hu
  have e : (⟨b, o, none⟩ : Addr).add j = ⟨b, o + j, none⟩ := by unfold Addr.add; split <;> simp_all
  rw [e]
  exact hcell j (by rw [← h.isN.len]; exact hj)

/-- append of a list of limbs, from wherever, to a row of limbs of the call's own: all premises under one name each, so that a walk leaves them as they are. -/
theorem wpList_append_nat {w : World} {ops : Array Oper} {rest : List Oper} {o : Oper} {a : Act} {Q : Exit → Act → World → Prop} (hgd : o.guard = none) (s x : Operand)
    (ho : o.op = .call { callee := .builtin .append, args := #[s, x], argTypes := #[24, 24] })
    (base : Nat) (v : Value) (n : Nat) (xs : List Nat) (hs : a.eval s = v) (hown : Hid (w.ownsRow base 38 1 v n (xs.map limV)))
    (A : Option Addr) (m c : Nat) (ys : List Nat) (b L : Nat) (hx : a.eval x = .slice A m c) (hy : Hid (NN w A m c ys b L)) (hb : Hid (n ≤ 1000000000 ∧ L ≤ 1000000000 ∧ base ≤ w.heap.size ∧ Small xs))
    (h : ∀ A2 c2 w', Hid (OwnN w' base A2 (n + m) c2 (xs ++ ys)) → Hid (w.grownBy w' v.ownBlock) → wpList Tryz.prog ops Q rest (a.put o.dst (.slice A2 (n + m) c2)) w') : wpList Tryz.prog ops Q (o :: rest) a w := by
  obtain ⟨i0, hi, hz0, hz1, hz2⟩ := info_parts u32_info
  obtain ⟨h1, h2, h3, h4⟩ := hb.out
  have hm := hy.out.le
  refine wpList_append_read hgd s x 24 ho base 38 i0 (.int .u32 0) 4 Tryz.underlying24 hi hz0 hz1 hz2 rfl v n (xs.map limV) hs hown.out A m c (ys.map limV) hx (by simp [hy.out.isN.len]) hy.out.news (oneCell_u32 ys) (by unfold maxLen; omega) (by omega) h3 ?_
  intro v' w' hown' hg
  rw [← List.map_append] at hown'
  obtain ⟨A2, c2, rfl, how⟩ := shape_own hown' (small_append.2 ⟨h4, hy.out.isN.small⟩)
  exact h A2 c2 w' how hg

/-- The empty literal is a row of the call's own. -/
theorem own_lit (w : World) (zs : List Nat) (n : Nat) (hn : zs.length = n) (h : n ≤ 1000000000) : (w.alloc (.cells (zs.map limV).toArray 38)).ownsRow w.heap.size 38 1 (.slice (some ⟨w.heap.size, 0, none⟩) n n) n (zs.map limV) := by
  have := World.ownsRow_lit (e := 38) (size := 1) w (zs.map limV).toArray n (Nat.le_refl _) (by unfold maxLen; omega) (by simp [hn])
  simpa using this

/-- What an append to a literal leaves of what was there. -/
theorem below_lit {w w' : World} {o : Obj} {g : Nat} {n c : Nat} (hg : (w.alloc o).grownBy w' (Value.ownBlock (.slice (some ⟨g, 0, none⟩) n c))) (hb : w.heap.size ≤ g) : Below w.heap.size w w' :=
  (below_new w o).grown hg (by simp) (fun k hk => by
    simp [Value.ownBlock] at hk
    omega)

end Go.Proofs.YtjpoolddgocbbaaGreatDoor

/- What the reference's at, Trim and Add of layer 1 come to, as contracts over memory. Conditions: arguments read as limbs, of at most 10^8 of them. -/
namespace Go.Proofs.YtjpoolddgocbbaaGreatDoor
open Go.RowKit Limb
set_option linter.unusedVariables false

theorem refAt_any (A : Option Addr) (n c : Nat) (xs : List Nat) (i : Int) (w : World) (hx : IsN w A n xs) (hm : n ≤ 1000000000) (h0 : 0 ≤ i) (h1 : i ≤ 9223372036854775807) :
    Calls Tryz.prog 88 #[.slice A n c, .int .i64 i] w fun e w' => e = .returned (.int .u64 ((lim xs i.toNat : Nat) : Int)) ∧ w = w' := by
  obtain ⟨i, rfl⟩ := Int.eq_ofNat_of_zero_le h0
  rw [Int.toNat_natCast]
  have hl := hx.len
  by_cases hi : i < n
  · obtain ⟨b, o, hA, hb1, hcell⟩ := hx.2.2 (by omega)
    subst hA
    have h2 := hcell i hi
    have hlt32 := lim_lt hx.small i
    go_enter Tryz.func88, Tryz.ntmps88
    go_wp2
    go_ret
    exact ⟨rfl, rfl⟩
  · have H := Lib.hid (lim_of_ge (xs := xs) (k := i) (by omega))
    have hi' : (n : Int) ≤ (i : Int) := by omega
    go_enter Tryz.func88, Tryz.ntmps88
    go_wp2
    go_ret
    exact ⟨by rw [H.out]; rfl, rfl⟩

set_option maxHeartbeats 400000 in
theorem refTrim_any (A : Option Addr) (n c : Nat) (xs : List Nat) (w : World) (hx : IsN w A n xs) (hc : n ≤ c) (hm : n ≤ 1000000000) :
    Calls Tryz.prog 53 #[.slice A n c] w fun e w' => ∃ A2 n2 c2, e = .returned (.slice A2 n2 c2) ∧ OwnN w' w.heap.size A2 n2 c2 (trim xs) ∧ Below w.heap.size w w' := by
  have hl := hx.len
  go_enter Tryz.func53, Tryz.ntmps53
  go_wp2
  go_loop [3] (fun i => ∃ k : Nat, k ≤ n ∧ i = .int .i64 k ∧ trim (xs.take k) = trim xs) (fun i => (intOf i).toNat)
  case atStart => exact ⟨n, Nat.le_refl _, rfl, by rw [List.take_of_length_le (by omega)]⟩
  case round =>
    obtain ⟨k, hk, rfl, ht⟩ := hrel
    by_cases hgo : 0 < k ∧ lim xs (k - 1) = 0
    · obtain ⟨hk0, hz⟩ := hgo
      obtain ⟨b, o, rfl, hb, hcell⟩ := hx.2.2 (by omega)
      have h1 := hcell (k - 1) (by omega)
      have h2 : trim (xs.take k) = trim (xs.take (k - 1)) := by
        have := trim_take_last (xs := xs) (k := k - 1) (by omega) hz
        rwa [Nat.sub_add_cancel (by omega)] at this
      have H2 := Lib.hid (h2.symm.trans ht)
      clear h2 ht
      rw [hz] at h1
      clear hz
      go_wp2
      go_round
      case rel => exact ⟨k - 1, by omega, by go_num, H2.out⟩
      case measure => simp [intOf]; omega
    · have h2 : trim xs = xs.take k := by
        rw [← ht]
        by_cases hk0 : k = 0
        · subst hk0; rfl
        · have := trim_take_full (xs := xs) (k := k - 1) (by omega) (fun h => hgo ⟨by omega, h⟩)
          rwa [Nat.sub_add_cancel (by omega)] at this
      have H2 := Lib.hid h2
      have hx2 := IsN.take hx hk
      have b0 := below_new w (.cells #[] 38)
      have Hx : RowKit.Hid (NN (w.alloc (.cells #[] 38)) A k c (xs.take k) (val (xs.take k)) 1000000000) := NN.below ⟨hx2, rfl, by omega, by omega⟩ b0
      have Hown : RowKit.Hid ((w.alloc (.cells #[] 38)).ownsRow w.heap.size 38 1 (.slice (some ⟨w.heap.size, 0, none⟩) 0 0) 0 (([] : List Nat).map limV)) := own_lit w [] 0 rfl (by omega)
      have Hb : RowKit.Hid (0 ≤ 1000000000 ∧ 1000000000 ≤ 1000000000 ∧ w.heap.size ≤ (w.alloc (.cells #[] 38)).heap.size ∧ Small []) := ⟨by omega, by omega, by simp, small_nil⟩
      clear hx2 b0
      by_cases hk0 : k = 0
      · subst hk0
        clear h2 ht
        go_wp2_with (at_builtin; refine wpList_append_nat rfl _ _ rfl w.heap.size _ 0 [] rfl Hown A 0 c (xs.take 0) (val (xs.take 0)) 1000000000 rfl Hx Hb ?_)
        intro A2 c2 w' how hgrow
        have hb2 := below_lit hgrow.out (Nat.le_refl _)
        have hn : OwnN w' w.heap.size A2 0 c2 (trim xs) := by
          rw [H2.out]
          exact how.out
        clear how hgrow Hown Hb Hx
        go_wp2
        go_ret
        exact ⟨_, _, _, rfl, hn, hb2⟩
      · obtain ⟨b, o, rfl, hb, hcell⟩ := hx.2.2 (by omega)
        have h1 := hcell (k - 1) (by omega)
        have hlt := lim_lt hx.small (k - 1)
        have hz' : (((lim xs (k - 1) : Nat) : Int) == 0) = false := by simp; exact fun h => hgo ⟨by omega, h⟩
        clear hgo h2 ht
        go_wp2_with (at_builtin; refine wpList_append_nat rfl _ _ rfl w.heap.size _ 0 [] rfl Hown (some ⟨b, o, none⟩) k c (xs.take k) (val (xs.take k)) 1000000000 rfl Hx Hb ?_)
        intro A2 c2 w' how hgrow
        have hb2 := below_lit hgrow.out (Nat.le_refl _)
        have hn : OwnN w' w.heap.size A2 k c2 (trim xs) := by
          rw [H2.out]
          exact how.out
        clear how hgrow Hown Hb Hx
        go_wp2
        go_ret
        exact ⟨_, _, _, rfl, hn, hb2⟩

/-- A sum that the reference makes limb by limb: the limbs made so far, and what goes on. -/
def RAdd (xs ys zs : List Nat) (k cr : Nat) : Prop := zs.length = k ∧ Small zs ∧ val zs + cr * 4294967296 ^ k = val (xs.take k) + val (ys.take k) ∧ cr ≤ 1

theorem RAdd.start (xs ys : List Nat) : RAdd xs ys [] 0 0 := ⟨rfl, small_nil, by simp [val], by omega⟩
theorem RAdd.step {xs ys zs : List Nat} {k cr : Nat} (h : RAdd xs ys zs k cr) (hx : Small xs) (hy : Small ys) : RAdd xs ys (zs ++ [(lim xs k + lim ys k + cr) % 4294967296]) (k + 1) ((lim xs k + lim ys k + cr) / 4294967296) := by
  obtain ⟨h1, h2, h3, h4⟩ := h
  refine ⟨by simp [h1], small_append.2 ⟨h2, by intro v hv; simp at hv; omega⟩, ?_, ?_⟩
  · rw [val_append, h1, val_take_lim, val_take_lim, Nat.pow_succ]
    have := add_step (z := lim xs k) (y := lim ys k) (c := cr) (P := 4294967296 ^ k) h3
    simp only [val, Nat.mul_zero, Nat.add_zero]
    omega
  · have := lim_lt hx k
    have := lim_lt hy k
    omega
theorem RAdd.done {xs ys zs : List Nat} {k : Nat} (h : RAdd xs ys zs k 0) (hx : xs.length ≤ k) (hy : ys.length ≤ k) : val zs = val xs + val ys := by
  obtain ⟨h1, h2, h3, h4⟩ := h
  rw [List.take_of_length_le hx, List.take_of_length_le hy] at h3
  omega

/-- The same, with the word that it is a row of the call's own. -/
theorem refTrim_o {A : Option Addr} {n c : Nat} {xs : List Nat} {a L : Nat} {w : World} (hx : NN w A n c xs a L) (h1 : L ≤ 1000000000) :
    Calls Tryz.prog 53 #[.slice A n c] w fun e w' => ∃ A2 n2 c2, e = .returned (.slice A2 n2 c2) ∧ OwnN w' w.heap.size A2 n2 c2 (limbs a) ∧ Below w.heap.size w w' := by
  refine (refTrim_any A n c xs w hx.isN hx.cap (by have := hx.le; omega)).mono ?_
  rintro e w' ⟨A2, n2, c2, rfl, how, hb⟩
  rw [limbs_of_NN hx] at how
  exact ⟨A2, n2, c2, rfl, how, hb⟩

theorem refTrim_c {A : Option Addr} {n c : Nat} {xs : List Nat} {a L : Nat} {w : World} (hx : NN w A n c xs a L) (h1 : L ≤ 1000000000) :
    Calls Tryz.prog 53 #[.slice A n c] w fun e w' => ∃ A2 n2 c2, e = .returned (.slice A2 n2 c2) ∧ NN w' A2 n2 c2 (limbs a) a L ∧ Below w.heap.size w w' := by
  refine (refTrim_any A n c xs w hx.isN hx.cap (by have := hx.le; omega)).mono ?_
  rintro e w' ⟨A2, n2, c2, rfl, how, hb⟩
  rw [limbs_of_NN hx] at how
  exact ⟨A2, n2, c2, rfl, NN.own how (lt_pow hx), hb⟩

theorem refAt_c {A : Option Addr} {n c : Nat} {xs : List Nat} {a L : Nat} {w : World} (hx : NN w A n c xs a L) (h1 : L ≤ 1000000000) (k : Nat) (hk : k ≤ 9000000000000000000) :
    Calls Tryz.prog 88 #[.slice A n c, .int .i64 (k : Int)] w fun e w' => e = .returned (.int .u64 ((lim xs k : Nat) : Int)) ∧ w = w' := by
  have := refAt_any A n c xs (k : Int) w hx.isN (by have := hx.le; omega) (by omega) (by omega)
  rwa [Int.toNat_natCast] at this

/-- A row that may grow: limbs of the call's own, nil too. -/
theorem OwnN.row {w : World} {B : Nat} {A : Option Addr} {n c : Nat} {zs : List Nat} (h : OwnN w B A n c zs) : w.ownsRow B 38 1 (.slice A n c) n (zs.map limV) := h.1

theorem OwnN.alloc {w : World} {B : Nat} {A : Option Addr} {n c : Nat} {zs : List Nat} (h : OwnN w B A n c zs) (o : Obj) : OwnN (w.alloc o) B A n c zs := ⟨h.1.alloc o, h.2⟩

/-- What an append to a row of the call's own leaves of what was there before the call. -/
theorem below_grown {w0 w w' : World} {A : Option Addr} {n c : Nat} {zs : List Nat} {o : Obj} (hb : Below w0.heap.size w0 w) (how : OwnN w w0.heap.size A n c zs) (hg : (w.alloc o).grownBy w' (Value.ownBlock (.slice A n c))) : Below w0.heap.size w0 w' :=
  (hb.alloc hb.size o).grown hg (by have := hb.size; simp; omega) (fun k hk => (how.1.lt k hk).1)

set_option maxHeartbeats 800000 in
theorem refAdd_c {A A' : Option Addr} {n c n' c' : Nat} {xs ys : List Nat} {a b L L' : Nat} {w : World} (hx : NN w A n c xs a L) (hy : NN w A' n' c' ys b L') (h1 : L ≤ 100000000) (h2 : L' ≤ 100000000) :
    Calls Tryz.prog 54 #[.slice A n c, .slice A' n' c'] w fun e w' => ∃ A2 n2 c2, e = .returned (.slice A2 n2 c2) ∧ NN w' A2 n2 c2 (limbs (a + b)) (a + b) (L + L' + 1) ∧ Below w.heap.size w w' := by
  have hle := hx.le
  have hle' := hy.le
  have hlx := hx.isN.len
  have hly := hy.isN.len
  have Hlx := Lib.hid hlx
  have Hly := Lib.hid hly
  clear hlx hly
  go_enter Tryz.func54, Tryz.ntmps54
  go_wp2
  go_loopw [7, 6, 5] (fun i cy v wr => ∃ (k cr : Nat) (zs : List Nat) (A2 : Option Addr) (c2 : Nat), k ≤ n + n' + 1 ∧ (n < k → n' < k → cr = 0) ∧ i = .int .i64 (k : Int) ∧ cy = .int .u64 (cr : Int) ∧ v = .slice A2 k c2 ∧ RAdd xs ys zs k cr ∧ OwnN wr w.heap.size A2 k c2 zs ∧ Below w.heap.size w wr) (fun i _ _ _ => n + n' + 2 - (intOf i).toNat)
  case atStart => exact ⟨0, 0, [], none, 0, by omega, fun h => by omega, rfl, rfl, rfl, RAdd.start _ _, OwnN.nil _ _, Below.refl _ _⟩
  case round =>
    obtain ⟨k, cr, zs, A2, c2, hk, hkc, rfl, rfl, rfl, hinv, how, bw⟩ := hrel
    have Hinv := Lib.hid hinv
    have hcr := hinv.2.2.2
    have Hkc := Lib.hid hkc
    clear hinv hkc
    have h_x := hx.below bw
    have h_y := hy.below bw
    by_cases hgo : k < n ∨ k < n' ∨ 0 < cr
    · have hk1 : k ≤ n + n' := by
        rcases hgo with h | h | h
        · omega
        · omega
        · have := Hkc.out; omega
      have b1 := lim_lt hx.isN.small k
      have b2 := lim_lt hy.isN.small k
      obtain ⟨sl, hsl⟩ : ∃ sl, sl = (lim xs k + lim ys k + cr) % 4294967296 := ⟨_, rfl⟩
      obtain ⟨sh, hsh⟩ : ∃ sh, sh = (lim xs k + lim ys k + cr) / 4294967296 := ⟨_, rfl⟩
      have es : ((cr : Int) + (((lim xs k : Nat) : Int) + ((lim ys k : Nat) : Int))) % 4294967296 = ((sl : Nat) : Int) := by omega
      have eh : ((cr : Int) + (((lim xs k : Nat) : Int) + ((lim ys k : Nat) : Int))) / 4294967296 = ((sh : Nat) : Int) := by omega
      have hsl2 : sl < 4294967296 := by omega
      have hkc2 : n < k + 1 → n' < k + 1 → sh = 0 := by
        intro p q
        rw [hsh, lim_of_ge (xs := xs) (by rw [Hlx.out]; omega), lim_of_ge (xs := ys) (by rw [Hly.out]; omega)]
        omega
      have Hkc2 := Lib.hid hkc2
      have Hst : RowKit.Hid (RAdd xs ys (zs ++ [sl]) (k + 1) sh) := by
        show RAdd _ _ _ _ _
        rw [hsl, hsh]; exact Hinv.out.step hx.isN.small hy.isN.small
      have Hown : RowKit.Hid ((wr.alloc (.cells #[Value.int IntKind.u32 (sl : Int)] 38)).ownsRow w.heap.size 38 1 (.slice A2 k c2) k (zs.map limV)) := (how.alloc _).row
      have Hlit : RowKit.Hid (NN (wr.alloc (.cells #[Value.int IntKind.u32 (sl : Int)] 38)) (some ⟨wr.heap.size, 0, none⟩) 1 1 [sl] (val [sl]) 1) := lit_c wr [sl] (by intro x hx; simp at hx; omega) 1 rfl
      have Hb : RowKit.Hid (k ≤ 1000000000 ∧ 1 ≤ 1000000000 ∧ w.heap.size ≤ (wr.alloc (.cells #[Value.int IntKind.u32 (sl : Int)] 38)).heap.size ∧ Small zs) := ⟨by omega, by omega, by have := bw.size; simp; omega, how.small⟩
      have How := Lib.hid how
      have Hbw := Lib.hid bw
      clear hkc2 hsl hsh hsl2 how bw
      rcases (show k < n ∨ (¬ k < n ∧ k < n') ∨ (¬ k < n ∧ ¬ k < n' ∧ 0 < cr) by omega) with h | ⟨h, h'⟩ | ⟨h, h', h''⟩
      all_goals
        clear hgo
        go_wp2_with fail
        refine (refAt_c h_x (by omega) k (by omega)).mono ?_
        rintro e w1 ⟨rfl, rfl⟩
        go_wp2_with fail
        refine (refAt_c h_y (by omega) k (by omega)).mono ?_
        rintro e w1 ⟨rfl, rfl⟩
        go_wp2_with (at_builtin; refine wpList_append_nat rfl _ _ rfl w.heap.size _ k zs rfl Hown (some ⟨wr.heap.size, 0, none⟩) 1 1 [sl] (val [sl]) 1 rfl Hlit Hb ?_)
        intro A3 c3 w3 how3 hg3
        have bw3 := below_grown Hbw.out How.out hg3.out
        have How3 := how3.out
        clear how3 hg3 Hown Hlit Hb How Hbw
        go_wp2
        go_roundw
        case rel => exact ⟨k + 1, sh, zs ++ [sl], A3, c3, by omega, Hkc2.out, by go_num, rfl, rfl, Hst.out, How3, bw3⟩
        case measure => simp [intOf]; omega
    · obtain rfl : cr = 0 := by omega
      have hv : val zs = a + b := by
        rw [Hinv.out.done (by rw [Hlx.out]; omega) (by rw [Hly.out]; omega), hx.val, hy.val]
      have hz : NN wr A2 k c2 zs (a + b) (L + L' + 1) := ⟨how.isN, hv, how.caps.1, by omega⟩
      have e1 : ¬ k < n := by omega
      have e2 : ¬ k < n' := by omega
      clear hgo hv how
      go_wp2_with fail
      refine (refTrim_c hz (by omega)).mono ?_
      rintro e w4 ⟨A4, n4, c4, rfl, h4, bn⟩
      go_wp2
      go_ret
      exact ⟨_, _, _, rfl, h4, below_two bw bn⟩

end Go.Proofs.YtjpoolddgocbbaaGreatDoor

/- What package mul's helpers cut and addRow answer, as contracts over memory: the limbs that count; a row of products with carries laid over a part. Conditions: arguments read as limbs, of at most 10^9 of them; a part that is the row itself begins where the row does. -/
namespace Go.Proofs.YtjpoolddgocbbaaGreatDoor
open Go.RowKit Limb
set_option linter.unusedVariables false

set_option maxHeartbeats 400000 in
theorem mulCut_any (A : Option Addr) (n c : Nat) (xs : List Nat) (w : World) (hx : IsN w A n xs) (hc : n ≤ c) (hm : n ≤ 1000000000) :
    Calls Tryz.prog 71 #[.slice A n c] w fun e w' => e = .returned (.slice A (trim xs).length c) ∧ w = w' := by
  have hlt := trim_len_le xs
  have hl := hx.len
  have hcount : (blen (val xs) + 31) / 32 = (trim xs).length := by rw [blen_count, trim_eq_limbs hx.small]
  have hb : blen (val xs) ≤ 32 * n := by
    have := val_lt hx.small
    rw [pow32, hl] at this
    exact blen_le this
  obtain ⟨m, hm2⟩ : ∃ m, m = (trim xs).length := ⟨_, rfl⟩
  rw [← hm2] at hcount hlt ⊢
  obtain ⟨b, hb2⟩ : ∃ b, b = blen (val xs) := ⟨_, rfl⟩
  have Hb2 := Lib.hid hb2
  rw [← hb2] at hcount hb
  have e1 : ((b : Int) + 32 - 1) / 32 = (m : Int) := by omega
  clear hm2 hb2 hcount
  go_enter Tryz.func71, Tryz.ntmps71
  go_wp2_with fail
  refine (bits_any A n c xs w hx hc hm).mono ?_
  rintro e w1 ⟨rfl, rfl⟩
  rw [← Hb2.out]
  go_wp2
  go_ret
  refine ⟨?_, rfl⟩
  first | rfl | (congr 2; omega)

/-- All blocks but one are as they were. -/
def Others (g : Nat) (w w' : World) : Prop := ∀ k, k ≠ g → w'.heap[k]? = w.heap[k]?
theorem Others.refl (g : Nat) (w : World) : Others g w w := fun _ _ => rfl
theorem Others.setCell {g : Nat} {a w : World} (h : Others g a w) (k : Nat) (u : Value) : Others g a (w.setCell ⟨g, k, none⟩ u) := fun j hj => (Below.heap_setCell w _ u j hj).trans (h j hj)

theorem cell_setCell_ne {a b : Addr} (w : World) (v : Value) (h : a ≠ b) : (w.setCell a v).cell? b = w.cell? b := World.cell?_setCell_other (w := w) (a := a) (b := b) (v := v) h

theorem OwnN.others {w w' : World} {B g : Nat} {A : Option Addr} {n c : Nat} {zs : List Nat} (h : OwnN w B A n c zs) (ho : Others g w w') (hA : ∀ b o s, A = some ⟨b, o, s⟩ → b ≠ g) : OwnN w' B A n c zs := by
  refine ⟨⟨h.1.1, ?_⟩, h.2⟩
  rcases h.1.2 with h2 | ⟨k, cap, cur, hv, hg, hh, r⟩
  · exact .inl h2
  · refine .inr ⟨k, cap, cur, hv, hg, ?_, r⟩
    rw [ho k ?_]
    · exact hh
    · injection hv with hA2
      exact hA _ _ _ hA2

set_option maxHeartbeats 1000000 in
theorem addRow_any (w0 w : World) (hb : Below w0.heap.size w0 w) (g m cs : Nat) (zs : List Nat) (how : OwnN w w0.heap.size (some ⟨g, 0, none⟩) (m + 1) cs zs)
    (Ap : Option Addr) (np cp : Nat) (ps : List Nat) (hp : IsN w Ap np ps) (hpm : m ≤ np) (hdis : ∀ b o, Ap = some ⟨b, o, none⟩ → b = g → o = 0)
    (A : Option Addr) (c : Nat) (xs : List Nat) (hx : IsN w0 A m xs) (v : Nat) (hv : v < 4294967296) (hm : m ≤ 1000000000) :
    Calls Tryz.prog 72 #[.slice (some ⟨g, 0, none⟩) (m + 1) cs, .slice Ap np cp, .slice A m c, .int .u32 (v : Int)] w fun e w' => e = .returned (.tuple #[]) ∧
      (∃ zs', OwnN w' w0.heap.size (some ⟨g, 0, none⟩) (m + 1) cs zs' ∧ val zs' = val (ps.take m) + v * val xs) ∧ Below w0.heap.size w0 w' ∧ Others g w w' := by
  have hBg : w0.heap.size ≤ g := by
    obtain ⟨g', e, h1, _⟩ := how.addr (by omega)
    injection e with e; injection e with e; subst e; exact h1
  have hps : ∀ j, 0 ≤ j → j < m → ∃ b o, Ap = some ⟨b, o, none⟩ ∧ w.cell? ⟨b, o + j, none⟩ = some (.int .u32 ((lim ps j : Nat) : Int)) := by
    intro j _ hj
    obtain ⟨b, o, e, _, hc⟩ := hp.2.2 (by omega)
    exact ⟨b, o, e, hc j (by omega)⟩
  have hsp := hp.small
  have hsx := hx.small
  have Hpl := Lib.hid hp.len
  have Hxl := Lib.hid hx.len
  have Hps := Lib.hid hps
  have Hdis := Lib.hid hdis
  have Hzl := Lib.hid how.len
  clear hps hdis hp
  go_enter Tryz.func72, Tryz.ntmps72
  go_wp2
  go_loopw [13, 8] (fun i cy wr => ∃ (k cr : Nat) (zs : List Nat), k ≤ m ∧ i = .int .i64 (k : Int) ∧ cy = .int .u64 (cr : Int) ∧ RowInv xs ps zs v k cr ∧ OwnN wr w0.heap.size (some ⟨g, 0, none⟩) (m + 1) cs zs ∧ Below w0.heap.size w0 wr ∧ Others g w wr ∧
    RowKit.Hid (∀ j, k ≤ j → j < m → ∃ b o, Ap = some ⟨b, o, none⟩ ∧ wr.cell? ⟨b, o + j, none⟩ = some (.int .u32 ((lim ps j : Nat) : Int)))) (fun i _ _ => m - (intOf i).toNat)
  case atStart => exact ⟨0, 0, zs, Nat.zero_le _, rfl, rfl, RowInv.start _ _ _ _, how, hb, Others.refl _ _, Hps⟩
  case round =>
    clear how hb Hps Hzl
    obtain ⟨k, cr, zs, hk, rfl, rfl, hinv, how, hbe, hoth, Hps⟩ := hrel
    have hcr := hinv.2
    have Hinv := Lib.hid hinv
    have Hzl := Lib.hid how.len
    have Hoth := Lib.hid hoth
    clear hinv hoth
    by_cases hkm : k < m
    · obtain ⟨b1, o1, rfl, hb1, hc1⟩ := hx.2.2 (by omega)
      have h1 : wr.cell? ⟨b1, o1 + k, none⟩ = some (.int .u32 ((lim xs k : Nat) : Int)) := (hbe.cell (p := ⟨b1, o1 + k, none⟩) hb1).trans (hc1 k hkm)
      obtain ⟨b2, o2, rfl, h2⟩ := Hps.out k (Nat.le_refl _) hkm
      have h3 := how.cell (k := k) (by omega)
      have h4 := how.1.frozenAt k
      have l1 := lim_lt hsx k
      have l2 := lim_lt hsp k
      have hq := limb_prod l1 hv
      have hq1 : ((lim xs k : Nat) : Int) * (v : Int) ≤ 18446744065119617025 := by
        have : ((lim xs k * v : Nat) : Int) ≤ 18446744065119617025 := by omega
        rwa [Int.natCast_mul] at this
      have hq0 : 0 ≤ ((lim xs k : Nat) : Int) * (v : Int) := by
        have : 0 ≤ ((lim xs k * v : Nat) : Int) := by omega
        rwa [Int.natCast_mul] at this
      obtain ⟨lo, hlo⟩ : ∃ lo, lo = (cr + lim xs k * v + lim ps k) % 4294967296 := ⟨_, rfl⟩
      obtain ⟨hi, hhi⟩ : ∃ hi, hi = (cr + lim xs k * v + lim ps k) / 4294967296 := ⟨_, rfl⟩
      have eI : ((lim xs k * v : Nat) : Int) = ((lim xs k : Nat) : Int) * (v : Int) := Int.natCast_mul _ _
      have hlo2 : lo < 4294967296 := by omega
      have hsum : lo + hi * 4294967296 = cr + lim xs k * v + lim ps k := by omega
      have elo : ((cr : Int) + (((lim xs k : Nat) : Int) * (v : Int) + ((lim ps k : Nat) : Int))) % 4294967296 = (lo : Int) := by omega
      have ehi : ((cr : Int) + (((lim xs k : Nat) : Int) * (v : Int) + ((lim ps k : Nat) : Int))) / 4294967296 = (hi : Int) := by omega
      have Hst : RowKit.Hid (RowInv xs ps (zs.set k lo) v (k + 1) hi) := Hinv.out.step (by have := Hzl.out; omega) hsx hsp hv hlo2 hsum
      have Hset : RowKit.Hid (OwnN (wr.setCell ⟨g, k, none⟩ (.int .u32 (lo : Int))) w0.heap.size (some ⟨g, 0, none⟩) (m + 1) cs (zs.set k lo)) := how.set k hlo2
      have Hbe : RowKit.Hid (Below w0.heap.size w0 (wr.setCell ⟨g, k, none⟩ (.int .u32 (lo : Int)))) := hbe.setCell (by exact hBg) _
      have Ho2 : RowKit.Hid (Others g w (wr.setCell ⟨g, k, none⟩ (.int .u32 (lo : Int)))) := Hoth.out.setCell k _
      have Hps2 : RowKit.Hid (∀ j, k + 1 ≤ j → j < m → ∃ b o, (some (⟨b2, o2, none⟩ : Addr)) = some ⟨b, o, none⟩ ∧ (wr.setCell ⟨g, k, none⟩ (.int .u32 (lo : Int))).cell? ⟨b, o + j, none⟩ = some (.int .u32 ((lim ps j : Nat) : Int))) := by
        intro j h5 h6
        obtain ⟨b, o, e, hc⟩ := Hps.out j (by omega) h6
        refine ⟨b, o, e, (cell_setCell_ne _ _ ?_).trans hc⟩
        intro e2
        injection e2 with e3 e4
        have := Hdis.out b o e e3.symm
        omega
      clear hq hlo hhi hsum
      clear eI
      go_wp2
      go_roundw
      case rel => exact ⟨k + 1, hi, zs.set k lo, by omega, by go_num, rfl, Hst.out, Hset.out, Hbe.out, Ho2.out, Hps2⟩
      case measure => simp [intOf]; omega
    · obtain rfl : k = m := by omega
      have h3 := how.cell (k := k) (by omega)
      have h4 := how.1.frozenAt k
      have Hset : RowKit.Hid (OwnN (wr.setCell ⟨g, k, none⟩ (.int .u32 (cr : Int))) w0.heap.size (some ⟨g, 0, none⟩) (k + 1) cs (zs.set k cr)) := how.set k hcr
      have Hbe : RowKit.Hid (Below w0.heap.size w0 (wr.setCell ⟨g, k, none⟩ (.int .u32 (cr : Int)))) := hbe.setCell (by exact hBg) _
      have Ho2 : RowKit.Hid (Others g w (wr.setCell ⟨g, k, none⟩ (.int .u32 (cr : Int)))) := Hoth.out.setCell k _
      have Hd : RowKit.Hid (val (zs.set k cr) = val (ps.take k) + v * val xs) := Hinv.out.done Hzl.out Hxl.out
      go_wp2
      first | go_end0 | refine bodyPost_ret (results_none rfl _ _ _) rfl ?_
      exact ⟨rfl, ⟨_, Hset.out, Hd.out⟩, Hbe.out, Ho2.out⟩

end Go.Proofs.YtjpoolddgocbbaaGreatDoor

/- What package mul's Of answers, as a contract over memory: the product of the numbers that both lists tell, in its shortest limbs, in new memory. Conditions: both read as limbs, of at most 10^8 of them. -/
namespace Go.Proofs.YtjpoolddgocbbaaGreatDoor
open Go.RowKit Limb
set_option linter.unusedVariables false

/-- Making a row of limbs. -/
theorem run_made (V : Int) (n : Nat) (hV : V = n) (hn : n ≤ 2000000000) (W : World) : (Instr.makeSlice 24 (.int .i64 V) (.int .i64 V)).run Tryz.prog W = .ok (.slice (some ⟨W.heap.size, 0, none⟩) n n) (W.alloc (.cells (madeCells #[.int .u32 0] n) 38)) := by
  subst hV
  obtain ⟨i0, hi, hz0, hz1, hz2⟩ := info_parts u32_info
  have h := run_make (P := Tryz.prog) W 24 38 i0 (.int .u32 0) Tryz.underlying24 hi hz0 .i64 .i64 (n : Int) (n : Int) (by omega) (by omega) (by rw [hz2]; omega) (by omega)
  rw [hz1] at h
  rw [Int.toNat_natCast, Nat.mul_one] at h
  exact h

/-- A row that was made just now. -/
theorem own_made (w : World) (n : Nat) (hn : n ≤ 2000000000) : OwnN (w.alloc (.cells (madeCells #[.int .u32 0] n) 38)) w.heap.size (some ⟨w.heap.size, 0, none⟩) n n (List.replicate n 0) := by
  have Hg : (w.alloc (.cells (madeCells #[.int .u32 0] n) 38)).heap[w.heap.size]? = some (.cells (List.replicate n (Value.int .u32 0)).toArray 38 (0, 0)) := by
    rw [heap_alloc_new, ← toList_madeCells_one]
  refine ⟨⟨by simp, .inr ⟨w.heap.size, n, _, rfl, Nat.le_refl _, Hg, Nat.le_refl _, by unfold maxLen; omega, ?_, ?_⟩⟩, small_zeros _⟩
  · simp
  · simp [limV]

/-- A part of a row of the call's own, from a place on. -/
theorem OwnN.tail {w : World} {B g n c : Nat} {zs : List Nat} (h : OwnN w B (some ⟨g, 0, none⟩) n c zs) (k : Nat) (hk : k < n) : IsN w (some ⟨g, k, none⟩) (n - k) (zs.drop k) := by
  have hl := h.len
  obtain ⟨b, o, e, hb, hc⟩ := h.isN.2.2 (by omega)
  injection e with e; injection e with e1 e2; subst e1; subst e2
  refine ⟨by simp; omega, small_drop h.small _, fun _ => ⟨g, k, rfl, hb, fun j hj => ?_⟩⟩
  rw [lim_drop]
  have := hc (k + j) (by omega)
  rwa [Nat.zero_add] at this

/-- copy of limbs into a row of the call's own, from a place on. -/
theorem wpList_copy_nat {w : World} {ops : Array Oper} {rest : List Oper} {o : Oper} {a : Act} {Q : Exit → Act → World → Prop} (hgd : o.guard = none) (d s : Operand)
    (ho : o.op = .call { callee := .builtin .copy, args := #[d, s], argTypes := #[24, 24] })
    (g off dLen dCap : Nat) (sp : Option Addr) (sLen sCap : Nat) (hd : a.eval d = .slice (some ⟨g, off, none⟩) dLen dCap) (hs : a.eval s = .slice sp sLen sCap)
    (B n : Nat) (zs : List Nat) (hown : Hid (OwnN w B (some ⟨g, 0, none⟩) n n zs)) (ys : List Nat) (hy : Hid (IsN w sp sLen ys)) (hlen : Hid (sLen ≤ dLen ∧ off + sLen ≤ n))
    (h : ∀ w', Hid (OwnN w' B (some ⟨g, 0, none⟩) n n (lay zs off ys)) → Hid (Others g w w') → Hid (∀ w0, Below B w0 w → Below B w0 w') → wpList Tryz.prog ops Q rest (a.put o.dst (goInt sLen)) w') :
    wpList Tryz.prog ops Q (o :: rest) a w := by
  have hyl := hy.out.len
  obtain ⟨h1, h2⟩ := hlen.out
  by_cases h0 : sLen = 0
  · subst h0
    obtain rfl : ys = [] := List.eq_nil_of_length_eq_zero hyl
    refine wpList_copy_nothing hgd d s _ _ ho 38 Tryz.underlying24 u32_size _ _ _ _ _ _ hd hs (Nat.zero_min _) ?_
    have e : lay zs off [] = zs := by simp [lay]
    exact h w (show OwnN _ _ _ _ _ _ by rw [e]; exact hown.out) (Others.refl _ _) (fun _ hb => hb)
  · obtain ⟨b, ob, rfl, hb1, hcell⟩ := hy.out.2.2 (by omega)
    have hzl := hown.out.len
    rcases hown.out.1.2 with ⟨hv, _⟩ | ⟨g2, cap, cur, hv, hg, hh, h3, h4, h5, h6⟩
    · cases hv
    · injection hv with e1 e2 e3
      injection e1 with e1
      injection e1 with e1
      subst e1
      subst e3
      rw [Nat.mul_one] at h5 h6
      have hcur : cur.toList = zs.map limV := by rw [← h6, List.take_of_length_le (by simp [h5])]
      have hb : ∀ w0, Below B w0 w → Below B w0 (w.setRow g (cur.toList.take off ++ ((ys.map limV) ++ cur.toList.drop (off + (ys.map limV).length))).toArray) := fun w0 hb => below_setRow hb hg _
      have ho' : Others g w (w.setRow g (cur.toList.take off ++ ((ys.map limV) ++ cur.toList.drop (off + (ys.map limV).length))).toArray) := fun k hk => setRow_other w g k _ hk
      have hn : OwnN (w.setRow g (cur.toList.take off ++ ((ys.map limV) ++ cur.toList.drop (off + (ys.map limV).length))).toArray) B (some ⟨g, 0, none⟩) n n (lay zs off ys) := by
        have hl2 : (lay zs off ys).length = n := by rw [lay_length (by omega), hzl]
        refine ⟨⟨by simp [hl2], .inr ⟨g, n, _, rfl, hg, setRow_heap w g _ _ _ _ hh, Nat.le_refl _, h4, ?_, ?_⟩⟩, lay_small hown.out.small hy.out.small⟩
        · rw [hcur]; simp; omega
        · rw [hcur, List.take_of_length_le (by simp; omega)]
          simp [lay, List.map_append, List.map_take, List.map_drop]
      have e2 : goInt (ys.map limV).length = goInt sLen := by rw [List.length_map, hyl]
      refine wpList_copy_own hgd d s _ _ ho 38 Tryz.underlying24 u32_size g off dLen dCap ⟨b, ob, none⟩ sLen sCap hd hs cur 38 hh (ys.map limV) (by rw [List.length_map, hyl]; exact (Nat.min_eq_left h1).symm) ?_ ?_ (oneCell_u32 ys) ?_
      · intro j v hv
        obtain ⟨hj, rfl⟩ := map_u32_get hv
        have e : (⟨b, ob, none⟩ : Addr).add j = ⟨b, ob + j, none⟩ := by unfold Addr.add; split <;> simp_all
        rw [e]
        exact hcell j (by omega)
      · rw [h5]; simp; omega
      · rw [e2]
        exact h _ hn ho' hb

/-- A product, under a name that no simp set opens. -/
def ProdIs (a b t : Nat) : Prop := a * b = t

set_option maxHeartbeats 2000000 in
theorem mulOf_any (A : Option Addr) (n c : Nat) (xs : List Nat) (A' : Option Addr) (n' c' : Nat) (ys : List Nat) (w : World) (hx : IsN w A n xs) (hy : IsN w A' n' ys) (hm : n ≤ 100000000) (hm' : n' ≤ 100000000) (hc : n ≤ c) (hc' : n' ≤ c') :
    Calls Tryz.prog 41 #[.slice A n c, .slice A' n' c'] w fun e w' => ∃ A2 n2 c2, e = .returned (.slice A2 n2 c2) ∧ OwnN w' w.heap.size A2 n2 c2 (limbs (val xs * val ys)) ∧ Below w.heap.size w w' := by
  have hlt := trim_len_le xs
  have hlt' := trim_len_le ys
  have hl := hx.len
  have hl' := hy.len
  have hx' := IsN.take hx (m := (trim xs).length) (by omega)
  rw [← trim_take xs] at hx'
  have hy' := IsN.take hy (m := (trim ys).length) (by omega)
  rw [← trim_take ys] at hy'
  have ex := trim_eq_limbs hx.small
  have ey := trim_eq_limbs hy.small
  have hb : (trim xs).length ≤ 100000000 := by omega
  have hb' : (trim ys).length ≤ 100000000 := by omega
  have Hl : RowKit.Hid (val (trim xs) = val xs) := by show _ = _; rw [ex, val_limbs]
  have Hl' : RowKit.Hid (val (trim ys) = val ys) := by show _ = _; rw [ey, val_limbs]
  clear hl hl' ex ey hlt hlt'
  go_enter Tryz.func41, Tryz.ntmps41
  go_wp2_with fail
  refine (mulCut_any A n c xs w hx hc (by omega)).mono ?_
  rintro e w1 ⟨rfl, rfl⟩
  go_wp2_with fail
  refine (mulCut_any A' n' c' ys w hy hc' (by omega)).mono ?_
  rintro e w1 ⟨rfl, rfl⟩
  generalize trim xs = xs' at *
  generalize trim ys = ys' at *
  clear hx hy
  by_cases hlen : xs'.length < ys'.length
  case' pos =>
    have hle : xs'.length ≤ ys'.length := by omega
    have hlen' : decide (((xs'.length : Nat) : Int) < ((ys'.length : Nat) : Int)) = true := by simpa using hlen
    have HT : ProdIs (val ys') (val xs') (val xs * val ys) := by unfold ProdIs; rw [Hl.out, Hl'.out]; exact Nat.mul_comm _ _
    obtain ⟨long, e⟩ : ∃ l, l = ys' := ⟨_, rfl⟩
    subst e
    obtain ⟨short, e⟩ : ∃ l, l = xs' := ⟨_, rfl⟩
    subst e
    have hL := hy'
    have hS := hx'
    have hbL := hb'
    have hbS := hb
    clear hy' hx' hb hb' Hl Hl' hc hc' hm hm'
  case' neg =>
    have hle : ys'.length ≤ xs'.length := by omega
    have hlen' : decide (((xs'.length : Nat) : Int) < ((ys'.length : Nat) : Int)) = false := by simpa using hlen
    have hlenN : decide (xs'.length < ys'.length) = false := by simpa using hlen
    clear hlen
    have HT : ProdIs (val xs') (val ys') (val xs * val ys) := by unfold ProdIs; rw [Hl.out, Hl'.out]
    obtain ⟨long, e⟩ : ∃ l, l = xs' := ⟨_, rfl⟩
    subst e
    obtain ⟨short, e⟩ : ∃ l, l = ys' := ⟨_, rfl⟩
    subst e
    have hL := hx'
    have hS := hy'
    have hbL := hb
    have hbS := hb'
    clear hy' hx' hb hb' Hl Hl' hc hc' hm hm'
  all_goals
    by_cases h0 : short.length = 0
    · obtain rfl : short = [] := List.eq_nil_of_length_eq_zero h0
      have Hf : RowKit.Hid (limbs (val xs * val ys) = []) := by
        show _ = _
        unfold ProdIs at HT
        rw [← HT]
        simp [val, limbs_zero]
      go_wp2
      go_ret
      exact ⟨_, _, _, rfl, by rw [Hf.out]; exact OwnN.nil _ _, Below.refl _ _⟩
    · have hne : (((short.length : Nat) : Int) == 0) = false := by simp; intro h; exact h0 (by rw [h]; rfl)
      have hpos : 0 < short.length := by omega
      clear h0
      have hmk1 := run_made ((long.length : Int) + (short.length : Int)) (long.length + short.length) (by omega) (by omega)
      have hmk2 := run_made ((long.length : Int) + 1) (long.length + 1) (by omega) (by omega)
      have b0 := below_new w (.cells (madeCells #[.int .u32 0] (long.length + short.length)) 38)
      have b1 := below_two b0 (below_new _ (.cells (madeCells #[.int .u32 0] (long.length + 1)) 38))
      have ho : OwnN _ w.heap.size _ _ _ _ := (own_made w (long.length + short.length) (by omega)).below (below_new _ (.cells (madeCells #[.int .u32 0] (long.length + 1)) 38)) (Nat.le_refl _)
      have hs := (own_made (w.alloc (.cells (madeCells #[.int .u32 0] (long.length + short.length)) 38)) (long.length + 1) (by omega)).mono (B' := w.heap.size) (by simp)
      have hi0 : MulInv long short (List.replicate (long.length + short.length) 0) 0 := MulInv.start _ _
      have hgs : (w.alloc (.cells (madeCells #[.int .u32 0] (long.length + short.length)) 38)).heap.size = w.heap.size + 1 := by simp
      rw [hgs] at hs
      have hsmS := hS.small
      have Hi0 := Lib.hid hi0
      have Ho := Lib.hid ho
      have Hs := Lib.hid hs
      have Hb1 := Lib.hid b1
      clear hi0 ho hs b1 b0 hgs
      go_wp2
      go_loopw [37] (fun i wr => ∃ (k : Nat) (zs zt : List Nat), k ≤ short.length ∧ i = .int .i64 (k : Int) ∧ RowKit.Hid (MulInv long short zs k) ∧ RowKit.Hid (OwnN wr w.heap.size (some ⟨w.heap.size, 0, none⟩) (long.length + short.length) (long.length + short.length) zs) ∧
        RowKit.Hid (OwnN wr w.heap.size (some ⟨w.heap.size + 1, 0, none⟩) (long.length + 1) (long.length + 1) zt) ∧ RowKit.Hid (Below w.heap.size w wr)) (fun i _ => short.length - (intOf i).toNat)
      case atStart => exact ⟨0, _, _, Nat.zero_le _, rfl, Hi0, Ho, Hs, Hb1⟩
      case round =>
        clear Hi0 Ho Hs Hb1 hmk1 hmk2
        obtain ⟨k, zs, zt, hk, rfl, Hinv, Ho, Hs, Hb⟩ := hrel
        by_cases hkq : k < short.length
        · obtain ⟨bs, os, hA, hbs, hcs⟩ := hS.2.2 (by omega)
          subst hA
          have h1 : wr.cell? ⟨bs, os + k, none⟩ = some (.int .u32 ((lim short k : Nat) : Int)) := (Hb.out.cell (p := ⟨bs, os + k, none⟩) hbs).trans (hcs k hkq)
          have l1 := lim_lt hsmS k
          have Hpart : RowKit.Hid (IsN wr (some ⟨w.heap.size, k, none⟩) (long.length + short.length - k) (zs.drop k)) := Ho.out.tail k (by omega)
          have Hdis : RowKit.Hid (∀ b o, (some (⟨w.heap.size, k, none⟩ : Addr)) = some ⟨b, o, none⟩ → b = w.heap.size + 1 → o = 0) := by
            intro b o e1 e2
            injection e1 with e1; injection e1 with e1
            omega
          go_wp2_with fail
          refine (addRow_any w wr Hb.out (w.heap.size + 1) long.length (long.length + 1) zt Hs.out _ _ _ (zs.drop k) Hpart.out (by omega) Hdis.out _ _ long hL (lim short k) l1 (by omega)).mono ?_
          rintro e w2 ⟨rfl, ⟨zu, hu, hvu⟩, hb2, ho2⟩
          have Ho2 : RowKit.Hid (OwnN w2 w.heap.size (some ⟨w.heap.size, 0, none⟩) (long.length + short.length) (long.length + short.length) zs) := Ho.out.others ho2 (by intro b o s e; injection e with e; injection e with e; omega)
          have Hu := Lib.hid hu.isN
          have Hu2 := Lib.hid hu
          have Hul := Lib.hid hu.len
          have Hv := Lib.hid hvu
          have Hb2 := Lib.hid hb2
          have Hlen : RowKit.Hid (long.length + 1 ≤ long.length + short.length - k ∧ k + (long.length + 1) ≤ long.length + short.length) := ⟨by omega, by omega⟩
          clear hu hvu hb2 ho2 Hb Ho Hs Hpart Hdis
          go_wp2_with (with_reducible refine wpList_copy_nat rfl (.tmp 51) (.tmp 52) rfl w.heap.size k (long.length + short.length - k) (long.length + short.length - k) (some ⟨w.heap.size + 1, 0, none⟩) (long.length + 1) (long.length + 1) rfl rfl w.heap.size (long.length + short.length) zs Ho2 zu Hu Hlen ?_)
          intro w3 Ho3 Hoth Hbel
          have Hs3 : RowKit.Hid (OwnN w3 w.heap.size (some ⟨w.heap.size + 1, 0, none⟩) (long.length + 1) (long.length + 1) zu) := Hu2.out.others Hoth.out (by intro b o s e; injection e with e; injection e with e; omega)
          have Hb3 : RowKit.Hid (Below w.heap.size w w3) := Hbel.out w Hb2.out
          have Hst : RowKit.Hid (MulInv long short (lay zs k zu) (k + 1)) := Hinv.out.step (by omega) Hul.out Hv.out
          clear Hoth Hbel Hb2 Hu Hu2 Hv Hinv
          go_wp2
          go_roundw
          case rel => exact ⟨k + 1, lay zs k zu, zu, by omega, by go_num, Hst, Ho3, Hs3, Hb3⟩
          case measure => simp [intOf]; omega
        · obtain rfl : k = short.length := by omega
          have hz := Ho.out.isN
          have hzl := Ho.out.len
          have ht := trim_len_le zs
          have how2 := Ho.out.take (m := (trim zs).length) (by omega)
          rw [← trim_take zs] at how2
          have Hf : RowKit.Hid (trim zs = limbs (val xs * val ys)) := by
            show _ = _
            unfold ProdIs at HT
            rw [trim_eq_limbs Ho.out.small, Hinv.out.done, HT]
          go_wp2_with fail
          refine (mulCut_any _ _ _ zs _ hz (Nat.le_refl _) (by omega)).mono ?_
          rintro e w3 ⟨rfl, rfl⟩
          go_wp2
          go_ret
          refine ⟨_, (trim zs).length, _, rfl, ?_, Hb.out⟩
          rw [← Hf.out]
          exact how2

end Go.Proofs.YtjpoolddgocbbaaGreatDoor

/- What package mul's Small and up answer, as contracts over memory: the product of a number and one limb, a number moved up by bits, in shortest limbs, in new memory. Conditions: the list reads as limbs, of at most 10^8 of them; moves of at most 8192 bits. -/
namespace Go.Proofs.YtjpoolddgocbbaaGreatDoor
open Go.RowKit Limb
set_option linter.unusedVariables false

theorem zeros_limbs (k m : Nat) (h : m ≠ 0) : List.replicate k 0 ++ limbs m = limbs (4294967296 ^ k * m) := by
  have e := eq_limbs (xs := List.replicate k 0 ++ limbs m) (small_append.2 ⟨small_zeros k, small_limbs m⟩) (.inr ?_)
  · rwa [val_zeros, val_limbs] at e
  · rw [val_zeros, val_limbs, List.length_append, List.length_replicate]
    have h1 := length_limbs_pred h
    have h2 : (limbs m).length ≠ 0 := by rw [limbs_pos h]; simp
    rw [show k + (limbs m).length - 1 = k + ((limbs m).length - 1) by omega, Nat.pow_add]
    exact Nat.mul_le_mul_left _ h1

theorem lay_zeros (k : Nat) (ys : List Nat) : lay (List.replicate (k + ys.length) 0) k ys = List.replicate k 0 ++ ys := by
  simp [lay]

set_option maxHeartbeats 1000000 in
theorem mulSmall_any (A : Option Addr) (n c : Nat) (xs : List Nat) (v : Nat) (w : World) (hx : IsN w A n xs) (hm : n ≤ 100000000) (hc : n ≤ c) (hv : v < 4294967296) :
    Calls Tryz.prog 49 #[.slice A n c, .int .u32 (v : Int)] w fun e w' => ∃ A2 n2 c2, e = .returned (.slice A2 n2 c2) ∧ OwnN w' w.heap.size A2 n2 c2 (limbs (val xs * v)) ∧ Below w.heap.size w w' := by
  have hlt := trim_len_le xs
  have hl := hx.len
  have hx' := IsN.take hx (m := (trim xs).length) (by omega)
  rw [← trim_take xs] at hx'
  have ex := trim_eq_limbs hx.small
  have hb : (trim xs).length ≤ 100000000 := by omega
  have Hl : RowKit.Hid (val (trim xs) = val xs) := by show _ = _; rw [ex, val_limbs]
  clear hl ex hlt
  go_enter Tryz.func49, Tryz.ntmps49
  go_wp2_with fail
  refine (mulCut_any A n c xs w hx hc (by omega)).mono ?_
  rintro e w1 ⟨rfl, rfl⟩
  generalize trim xs = ys at *
  clear hx
  by_cases h0 : ys.length = 0
  · obtain rfl : ys = [] := List.eq_nil_of_length_eq_zero h0
    have Hf : RowKit.Hid (limbs (val xs * v) = []) := by show _ = _; rw [← Hl.out]; simp [val, limbs_zero]
    go_wp2
    go_ret
    exact ⟨_, _, _, rfl, by rw [Hf.out]; exact OwnN.nil _ _, Below.refl _ _⟩
  · have hne : (((ys.length : Nat) : Int) == 0) = false := by simp; intro h; exact h0 (by rw [h]; rfl)
    by_cases hv0 : v = 0
    · subst hv0
      have Hf : RowKit.Hid (limbs (val xs * 0) = []) := by show _ = _; rw [Nat.mul_zero, limbs_zero]
      go_wp2
      go_ret
      exact ⟨_, _, _, rfl, by rw [Hf.out]; exact OwnN.nil _ _, Below.refl _ _⟩
    · have hvne : ((v : Int) == 0) = false := by simp; exact hv0
      have hpos : 0 < ys.length := by omega
      clear h0 hv0
      have hmk2 := run_made ((ys.length : Int) + 1) (ys.length + 1) (by omega) (by omega)
      have Hb1 := Lib.hid (below_new w (.cells (madeCells #[.int .u32 0] (ys.length + 1)) 38))
      have hs := own_made w (ys.length + 1) (by omega)
      have Hs := Lib.hid hs
      have Hpart := Lib.hid hs.isN
      have Hdis : RowKit.Hid (∀ b o, (some (⟨w.heap.size, 0, none⟩ : Addr)) = some ⟨b, o, none⟩ → b = w.heap.size → o = 0) := by
        intro b o e1 e2
        injection e1 with e1; injection e1 with e1 e3
        exact e3.symm
      clear hs
      go_wp2_with fail
      refine (addRow_any w _ Hb1.out w.heap.size ys.length (ys.length + 1) _ Hs.out _ _ _ _ Hpart.out (by omega) Hdis.out _ _ ys hx' v hv (by omega)).mono ?_
      rintro e w2 ⟨rfl, ⟨zs, hz, hvz⟩, hb2, ho2⟩
      have hv2 : val zs = val xs * v := by
        rw [hvz, Hl.out, Nat.mul_comm, val_zero (zs := List.take _ _) (fun j => ?_), Nat.zero_add]
        simp [lim, List.getD_eq_getElem?_getD, List.getElem?_replicate]
        split <;> (try split) <;> rfl
      clear Hs Hpart Hdis ho2 hvz
      have hzi := hz.isN
      have hzl := hz.len
      have ht := trim_len_le zs
      have how2 := hz.take (m := (trim zs).length) (by omega)
      rw [← trim_take zs] at how2
      have Hf : RowKit.Hid (trim zs = limbs (val xs * v)) := by
        show _ = _
        rw [trim_eq_limbs hz.small, hv2]
      clear hv2 hz hzl
      go_wp2_with fail
      refine (mulCut_any _ _ _ zs _ hzi (Nat.le_refl _) (by omega)).mono ?_
      rintro e w3 ⟨rfl, rfl⟩
      go_wp2
      go_ret
      refine ⟨_, (trim zs).length, _, rfl, ?_, hb2⟩
      rw [← Hf.out]
      exact how2

theorem two_pow_small (r : Nat) (h : r < 32) : 2 ^ r < 4294967296 := by
  have : 2 ^ r < 2 ^ 32 := Nat.pow_lt_pow_right (by decide) h
  simpa using this

theorem two_pow_int (r : Nat) (h : r < 32) : (2 : Int) ^ r % 4294967296 = ((2 ^ r : Nat) : Int) := by
  have h1 := two_pow_small r h
  have e : (2 : Int) ^ r = ((2 ^ r : Nat) : Int) := by rw [Int.natCast_pow]; rfl
  rw [e]
  generalize 2 ^ r = t at h1 ⊢
  omega

theorem pow_split (a k : Nat) : 4294967296 ^ (k / 32) * (a * 2 ^ (k % 32)) = a * 2 ^ k := by
  rw [Nat.mul_left_comm, pow_move]

set_option maxHeartbeats 1000000 in
theorem mulUp_any (A : Option Addr) (n c : Nat) (xs : List Nat) (k : Nat) (V : Int) (hV : V = k) (w : World) (hx : IsN w A n xs) (hm : n ≤ 90000000) (hc : n ≤ c) (hk : k ≤ 8192) :
    Calls Tryz.prog 124 #[.slice A n c, .int .i64 V] w fun e w' => ∃ A2 n2 c2, e = .returned (.slice A2 n2 c2) ∧ OwnN w' w.heap.size A2 n2 c2 (limbs (val xs * 2 ^ k)) ∧ Below w.heap.size w w' := by
  subst hV
  have hlt : val xs * 2 ^ (k % 32) < 4294967296 ^ (n + 1) := by
    have h1 := val_lt hx.small
    rw [hx.len] at h1
    have h2 := two_pow_small (k % 32) (Nat.mod_lt _ (by decide))
    have h3 : 0 < 2 ^ (k % 32) := Nat.two_pow_pos _
    rw [Nat.pow_succ]
    exact Nat.lt_of_lt_of_le (Nat.mul_lt_mul_of_pos_right h1 h3) (Nat.mul_le_mul_left _ (Nat.le_of_lt h2))
  have Hlen := Lib.hid (length_limbs_le hlt)
  have hsh : 2 ^ (k % 32) < 4294967296 := two_pow_small _ (Nat.mod_lt _ (by decide))
  have Hsh := Lib.hid hsh
  clear hlt hsh
  go_enter Tryz.func124, Tryz.ntmps124
  go_wp2_with fail
  rw [two_pow_int _ (Nat.mod_lt _ (by decide))]
  obtain ⟨t, ht⟩ : ∃ t, t = 2 ^ (k % 32) := ⟨_, rfl⟩
  have Hprod : RowKit.Hid (4294967296 ^ (k / 32) * (val xs * t) = val xs * 2 ^ k) := by show _ = _; rw [ht]; exact pow_split _ _
  rw [← ht] at Hsh Hlen ⊢
  clear ht
  refine (mulSmall_any A n c xs t w hx (by omega) hc Hsh.out).mono ?_
  rintro e w1 ⟨A1, n1, c1, rfl, h1, b1⟩
  have hn1 : n1 ≤ n + 1 := by have := h1.len; have := Hlen.out; omega
  by_cases h0 : n1 = 0
  · subst h0
    have Hf : RowKit.Hid (limbs (val xs * 2 ^ k) = []) := by
      show _ = _
      have e0 := List.eq_nil_of_length_eq_zero h1.len
      rw [limbs_eq_nil] at e0
      rw [← Hprod.out, e0, Nat.mul_zero, limbs_zero]
    clear h1
    go_wp2
    go_ret
    exact ⟨_, _, _, rfl, by rw [Hf.out]; exact OwnN.nil _ _, b1⟩
  · have hne : ((n1 : Int) == 0) = false := by simp; exact h0
    have hpos : 0 < n1 := by omega
    clear h0
    have hq : k / 32 ≤ 256 := by omega
    obtain ⟨q, hq2⟩ : ∃ q, q = k / 32 := ⟨_, rfl⟩
    have eq1 : (k : Int) / 32 = (q : Int) := by omega
    have hq3 : q ≤ 256 := by omega
    have Hf : RowKit.Hid (List.replicate q 0 ++ limbs (val xs * t) = limbs (val xs * 2 ^ k)) := by
      show _ = _
      rw [zeros_limbs, hq2, Hprod.out]
      intro h0
      have := h1.len
      rw [h0, limbs_zero] at this
      simp at this
      omega
    have hmk2 := run_made ((q : Int) + (n1 : Int)) (q + n1) (by omega) (by omega)
    have b2 := below_new w1 (.cells (madeCells #[.int .u32 0] (q + n1)) 38)
    have Hs := Lib.hid (own_made w1 (q + n1) (by omega))
    have Hu := Lib.hid (h1.isN.below b2)
    have Hul := Lib.hid h1.len
    have Hb2 := Lib.hid b2
    have Hb1 := Lib.hid b1
    have Hsz := Lib.hid b1.size
    have Hlen2 : RowKit.Hid (n1 ≤ n1 ∧ q + n1 ≤ q + n1) := ⟨Nat.le_refl _, Nat.le_refl _⟩
    clear h1 b1 b2 Hlen Hprod hq hq2
    go_wp2_with (with_reducible refine wpList_copy_nat rfl (.tmp 24) (.tmp 25) rfl w1.heap.size q n1 n1 A1 n1 c1 rfl rfl w1.heap.size (q + n1) (List.replicate (q + n1) 0) Hs (limbs (val xs * t)) Hu Hlen2 ?_)
    intro w3 Ho Hoth Hbel
    have Hb3 := Lib.hid (below_two Hb1.out (Hbel.out w1 Hb2.out))
    have Ho3 : RowKit.Hid (OwnN w3 w.heap.size (some ⟨w1.heap.size, 0, none⟩) (q + n1) (q + n1) (limbs (val xs * 2 ^ k))) := by
      have h := Ho.out.mono Hsz.out
      have e2 : lay (List.replicate (q + n1) 0) q (limbs (val xs * t)) = List.replicate q 0 ++ limbs (val xs * t) := by
        have := lay_zeros q (limbs (val xs * t))
        rwa [Hul.out] at this
      rw [e2, Hf.out] at h
      exact h
    clear Hs Hu Hul Hb2 Hb1 Hsz Hoth Hbel Ho Hf
    go_wp2
    go_ret
    exact ⟨_, _, _, rfl, Ho3.out, Hb3.out⟩

end Go.Proofs.YtjpoolddgocbbaaGreatDoor

/- What the document's own answers for layer 1 (package steelyardref01) come to, as contracts over memory: Of, Cmp. Conditions: arguments read as limbs, of at most 10^9 of them. -/
namespace Go.Proofs.YtjpoolddgocbbaaGreatDoor
open Go.RowKit Limb
set_option linter.unusedVariables false

set_option maxHeartbeats 400000 in
theorem refOf_any (v : Int) (w : World) (h0 : 0 ≤ v) (h1 : v < 18446744073709551616) :
    Calls Tryz.prog 104 #[.int .u64 v] w fun e w' => ∃ A' n' c', e = .returned (.slice A' n' c') ∧ OwnN w' w.heap.size A' n' c' (limbs v.toNat) ∧ Below w.heap.size w w' := by
  go_enter Tryz.func104, Tryz.ntmps104
  go_wp2_with fail
  obtain ⟨v, rfl⟩ := Int.eq_ofNat_of_zero_le h0
  have e : (#[Value.int IntKind.u32 ((v : Int) % 4294967296), Value.int IntKind.u32 ((v : Int) / 4294967296)] : Array Value) = ([v % 4294967296, v / 4294967296].map limV).toArray := rfl
  have hs : Small [v % 4294967296, v / 4294967296] := by
    intro x hx
    simp at hx
    omega
  have hv : trim [v % 4294967296, v / 4294967296] = limbs ((v : Int)).toNat := by
    rw [trim_eq_limbs hs]
    congr 1
    simp [val]
    omega
  rw [e]
  refine (refTrim_any _ 2 2 [v % 4294967296, v / 4294967296] _ (isN_lit w [v % 4294967296, v / 4294967296] hs) (by omega) (by omega)).mono ?_
  rintro e w1 ⟨A', n', c', rfl, hown, hbel⟩
  rw [hv] at hown
  have hb : Below w.heap.size w w1 := ((Below.refl _ _).alloc (Nat.le_refl _) _).trans (hbel.mono (by simp))
  have hown' : OwnN w1 w.heap.size A' n' c' (limbs ((v : Int)).toNat) := hown.mono (by simp)
  clear hown hbel hv
  go_wp2
  go_ret
  exact ⟨_, _, _, rfl, hown', hb⟩

/-- Numbers alike from a place on are so ordered as below it. -/
theorem val_eq_of_lim {xs ys : List Nat} (hx : Small xs) (hy : Small ys) (h : ∀ j, lim xs j = lim ys j) : val xs = val ys := by
  have e : ∀ k, val (xs.take k) = val (ys.take k) := by
    intro k
    induction k with
    | zero => rfl
    | succ k ih => rw [val_take_lim, val_take_lim, ih, h k]
  have := e (max xs.length ys.length)
  rwa [List.take_of_length_le (by omega), List.take_of_length_le (by omega)] at this

theorem val_lt_pad {xs ys : List Nat} (hx : Small xs) (hy : Small ys) {k : Nat} (hlt : lim xs k < lim ys k) (h : ∀ j, k < j → lim xs j = lim ys j) : val xs < val ys := by
  have e : ∀ m, val (xs.take (k + 1 + m)) + 4294967296 ^ k ≤ val (ys.take (k + 1 + m)) + val (xs.take k) := by
    intro m
    induction m with
    | zero =>
      rw [Nat.add_zero, val_take_lim, val_take_lim]
      have h1 : 4294967296 ^ k * (lim xs k + 1) ≤ 4294967296 ^ k * lim ys k := Nat.mul_le_mul_left _ hlt
      rw [Nat.mul_add] at h1
      omega
    | succ m ih =>
      rw [← Nat.add_assoc, val_take_lim, val_take_lim, h (k + 1 + m) (by omega)]
      omega
  have h1 := e (max xs.length ys.length)
  rw [List.take_of_length_le (by omega), List.take_of_length_le (by omega)] at h1
  have h2 := val_lt (small_take hx k)
  have h3 : 4294967296 ^ (xs.take k).length ≤ 4294967296 ^ k := Nat.pow_le_pow_right (by decide) (by rw [List.length_take]; omega)
  omega

set_option maxHeartbeats 800000 in
theorem refCmp_any (A : Option Addr) (n c : Nat) (xs : List Nat) (A' : Option Addr) (n' c' : Nat) (ys : List Nat) (w : World) (hx : IsN w A n xs) (hy : IsN w A' n' ys) (hm : n ≤ 1000000000) (hm' : n' ≤ 1000000000) :
    Calls Tryz.prog 115 #[.slice A n c, .slice A' n' c'] w fun e w' => e = .returned (.int .i64 (cmpI (val xs) (val ys))) ∧ w = w' := by
  have hl := Lib.hid hx.len
  have hl' := Lib.hid hy.len
  by_cases hnn : n < n'
  case' pos => obtain ⟨M, hM, hM1, hM2⟩ : ∃ M, n' = M ∧ n ≤ M ∧ n' ≤ M := ⟨n', rfl, by omega, by omega⟩
  case' neg => obtain ⟨M, hM, hM1, hM2⟩ : ∃ M, n = M ∧ n ≤ M ∧ n' ≤ M := ⟨n, rfl, by omega, by omega⟩
  all_goals
    have hMb : M ≤ 1000000000 := by omega
    have HM := Lib.hid hM
    clear hM
    go_enter Tryz.func115, Tryz.ntmps115
    go_wp2
    go_loop [5] (fun i => ∃ k : Nat, k ≤ M ∧ i = .int .i64 ((k : Int) - 1) ∧ (∀ j, k ≤ j → lim xs j = lim ys j)) (fun i => (intOf i + 1).toNat)
    case atStart => exact ⟨M, Nat.le_refl _, by rw [← HM.out], fun j h1 => by rw [lim_of_ge (by have := hl.out; omega), lim_of_ge (by have := hl'.out; omega)]⟩
    case round =>
      obtain ⟨k, hk, rfl, heq⟩ := hrel
      have Heq := Lib.hid heq
      clear heq
      by_cases hk0 : k = 0
      · subst hk0
        have e : RowKit.Hid (cmpI (val xs) (val ys) = 0) := cmpI_same (val_eq_of_lim hx.small hy.small fun j => Heq.out j (Nat.zero_le _))
        go_wp2
        go_ret
        exact ⟨by rw [e.out]; rfl, rfl⟩
      · have b1 := lim_lt hx.small (k - 1)
        have b2 := lim_lt hy.small (k - 1)
        have ek : ((k : Int) - 1).toNat = k - 1 := by omega
        have Ek := Lib.hid ek
        clear ek
        have c1 : ∀ w' : World, w = w' → Calls Tryz.prog 88 #[.slice A n c, .int .i64 ((k : Int) - 1)] w' fun e w2 => e = .returned (.int .u64 ((lim xs (k - 1) : Nat) : Int)) ∧ w' = w2 := by
          rintro w' rfl
          have := refAt_any A n c xs ((k : Int) - 1) w hx hm (by omega) (by omega)
          rwa [Ek.out] at this
        have c2 : ∀ w' : World, w = w' → Calls Tryz.prog 88 #[.slice A' n' c', .int .i64 ((k : Int) - 1)] w' fun e w2 => e = .returned (.int .u64 ((lim ys (k - 1) : Nat) : Int)) ∧ w' = w2 := by
          rintro w' rfl
          have := refAt_any A' n' c' ys ((k : Int) - 1) w hy hm' (by omega) (by omega)
          rwa [Ek.out] at this
        have C1 := Lib.hid c1
        have C2 := Lib.hid c2
        clear c1 c2
        rcases Nat.lt_trichotomy (lim xs (k - 1)) (lim ys (k - 1)) with ho | ho | ho
        · have e : RowKit.Hid (cmpI (val xs) (val ys) = -1) := cmpI_lt (val_lt_pad hx.small hy.small ho fun j hj => Heq.out j (by omega))
          go_wp2_with fail
          refine (C1.out _ rfl).mono ?_
          rintro e w1 ⟨rfl, rfl⟩
          go_wp2_with fail
          refine (C2.out _ rfl).mono ?_
          rintro e w1 ⟨rfl, rfl⟩
          go_wp2
          go_ret
          exact ⟨by rw [e.out]; rfl, rfl⟩
        · have Ho := Lib.hid ho
          have hle : lim xs (k - 1) ≤ lim ys (k - 1) := by omega
          have hge : lim ys (k - 1) ≤ lim xs (k - 1) := by omega
          clear ho
          go_wp2_with fail
          refine (C1.out _ rfl).mono ?_
          rintro e w1 ⟨rfl, rfl⟩
          go_wp2_with fail
          refine (C2.out _ rfl).mono ?_
          rintro e w1 ⟨rfl, rfl⟩
          go_wp2_with fail
          refine (C1.out _ rfl).mono ?_
          rintro e w1 ⟨rfl, rfl⟩
          go_wp2_with fail
          refine (C2.out _ rfl).mono ?_
          rintro e w1 ⟨rfl, rfl⟩
          go_wp2
          go_round
          case rel => exact ⟨k - 1, by omega, by go_num, fun j h1 => by
            rcases Nat.lt_or_ge j k with h | h
            · have : j = k - 1 := by omega
              subst this; exact Ho.out
            · exact Heq.out j h⟩
          case measure => simp [intOf]; omega
        · have e : RowKit.Hid (cmpI (val xs) (val ys) = 1) := cmpI_gt (val_lt_pad hy.small hx.small ho fun j hj => (Heq.out j (by omega)).symm)
          have hle : ¬ lim xs (k - 1) < lim ys (k - 1) := by omega
          go_wp2_with fail
          refine (C1.out _ rfl).mono ?_
          rintro e w1 ⟨rfl, rfl⟩
          go_wp2_with fail
          refine (C2.out _ rfl).mono ?_
          rintro e w1 ⟨rfl, rfl⟩
          go_wp2_with fail
          refine (C1.out _ rfl).mono ?_
          rintro e w1 ⟨rfl, rfl⟩
          go_wp2_with fail
          refine (C2.out _ rfl).mono ?_
          rintro e w1 ⟨rfl, rfl⟩
          go_wp2
          go_ret
          exact ⟨by rw [e.out]; rfl, rfl⟩

end Go.Proofs.YtjpoolddgocbbaaGreatDoor

/- What the document's own answers for layer 1 (package steelyardref01) come to, as contracts over memory: Bit, Bits, Sub. Conditions: arguments read as limbs, of at most 10^8 of them; a difference is asked of a number that is not below. -/
namespace Go.Proofs.YtjpoolddgocbbaaGreatDoor
open Go.RowKit Limb
set_option linter.unusedVariables false

theorem bit_of64 (t k : Nat) (ht : t < 4294967296) : (bits BinOp.and IntKind.u64 ((t : Int) / 2 ^ k) 1 == 1) = t.testBit k := by
  have e : (t : Int) / 2 ^ k = ((t / 2 ^ k : Nat) : Int) := by simp
  have h1 : t / 2 ^ k < 4294967296 := Nat.lt_of_le_of_lt (Nat.div_le_self _ _) ht
  have h2 := u64_and_nat (t / 2 ^ k) 1 (by omega) (by decide)
  rw [e, show (1 : Int) = ((1 : Nat) : Int) from rfl, h2, Nat.and_one_is_mod, Nat.testBit_eq_decide_div_mod_eq]
  rw [Bool.eq_iff_iff]
  simp
  omega

set_option maxHeartbeats 400000 in
theorem refBit_any (A : Option Addr) (n c : Nat) (xs : List Nat) (i : Int) (w : World) (hx : IsN w A n xs) (hm : n ≤ 1000000000) (h0 : 0 ≤ i) (h1 : i ≤ 9223372036854775807) :
    Calls Tryz.prog 89 #[.slice A n c, .int .i64 i] w fun e w' => e = .returned (.bool ((val xs).testBit i.toNat)) ∧ w = w' := by
  have H := Lib.hid (testBit_lim xs hx.small i.toNat)
  obtain ⟨i, rfl⟩ := Int.eq_ofNat_of_zero_le h0
  rw [Int.toNat_natCast] at H ⊢
  have hat : ∀ w' : World, w = w' → Calls Tryz.prog 88 #[.slice A n c, .int .i64 ((i : Int) / 32)] w' fun e w2 => e = .returned (.int .u64 ((lim xs (i / 32) : Nat) : Int)) ∧ w' = w2 := by
    rintro w' rfl
    have := refAt_any A n c xs ((i : Int) / 32) w hx hm (by omega) (by omega)
    rwa [show ((i : Int) / 32).toNat = i / 32 by omega] at this
  have Hat := Lib.hid hat
  clear hat
  have hlt := lim_lt hx.small (i / 32)
  go_enter Tryz.func89, Tryz.ntmps89
  go_wp2_with fail
  refine (Hat.out _ rfl).mono ?_
  rintro e w1 ⟨rfl, rfl⟩
  go_wp2
  go_ret
  refine ⟨ret_bool ?_, rfl⟩
  rw [H.out]
  exact bit_of64 _ _ hlt

theorem refBit_c {A : Option Addr} {n c : Nat} {xs : List Nat} {a L : Nat} {w : World} (hx : NN w A n c xs a L) (h1 : L ≤ 1000000000) (i : Int) (h2 : 0 ≤ i) (h3 : i ≤ 9223372036854775807) (v : Bool) (hv : a.testBit i.toNat = v) :
    Calls Tryz.prog 89 #[.slice A n c, .int .i64 i] w fun e w' => e = .returned (.bool v) ∧ w = w' := by
  have := refBit_any A n c xs i w hx.isN (by have := hx.le; omega) h2 h3
  rwa [hx.val, hv] at this

theorem blen_of_bit {n k : Nat} (h : blen n ≤ k) (hk : k ≠ 0) (hb : n.testBit (k - 1) = true) : blen n = k := by
  have h1 := Nat.ge_two_pow_of_testBit hb
  have h2 := blen_lt n
  have h3 : k - 1 < blen n := (Nat.pow_lt_pow_iff_right (show 1 < 2 by decide)).1 (Nat.lt_of_le_of_lt h1 h2)
  omega

theorem blen_of_nobit {n k : Nat} (h : blen n ≤ k) (hk : k ≠ 0) (hb : n.testBit (k - 1) = false) : blen n ≤ k - 1 := by
  by_cases h0 : n = 0
  · subst h0; rw [blen_zero]; omega
  · have h1 := blen_top h0
    refine Classical.byContradiction fun hn => ?_
    have : blen n - 1 = k - 1 := by omega
    rw [this, hb] at h1
    cases h1

set_option maxHeartbeats 400000 in
theorem refBits_c {A : Option Addr} {n c : Nat} {xs : List Nat} {a L : Nat} {w : World} (hx : NN w A n c xs a L) (h1 : L ≤ 100000000) (v : Int) (hv : ((blen a : Nat) : Int) = v) :
    Calls Tryz.prog 56 #[.slice A n c] w fun e w' => e = .returned (.int .i64 v) ∧ w = w' := by
  subst hv
  have hb : blen a ≤ 32 * n := by
    have h := blen_NN (L := n) ⟨hx.isN, hx.val, hx.cap, Nat.le_refl _⟩
    exact h
  have hle := hx.le
  go_enter Tryz.func56, Tryz.ntmps56
  go_wp2
  go_loop [3] (fun i => ∃ k : Nat, k ≤ 32 * n ∧ i = .int .i64 k ∧ blen a ≤ k) (fun i => (intOf i).toNat)
  case atStart => exact ⟨32 * n, Nat.le_refl _, by simp, hb⟩
  case round =>
    obtain ⟨k, hk, rfl, hbk⟩ := hrel
    by_cases hk0 : k = 0
    · subst hk0
      have e : RowKit.Hid (blen a = 0) := by show _ = _; omega
      go_wp2
      go_ret
      exact ⟨by rw [e.out]; rfl, rfl⟩
    · have ek : ((k : Int) - 1).toNat = k - 1 := by omega
      have Ek := Lib.hid ek
      clear ek
      by_cases ht : a.testBit (k - 1) = true
      · have e := Lib.hid (blen_of_bit hbk hk0 ht)
        have Ht := Lib.hid ht
        clear ht
        go_wp2_with fail
        refine (refBit_c hx (by omega) _ (by omega) (by omega) true (by rw [Ek.out]; exact Ht.out)).mono ?_
        rintro e w1 ⟨rfl, rfl⟩
        go_wp2
        go_ret
        exact ⟨by rw [e.out]; rfl, rfl⟩
      · have ht : a.testBit (k - 1) = false := by simpa using ht
        have hb2 := blen_of_nobit hbk hk0 ht
        have Ht := Lib.hid ht
        clear ht
        go_wp2_with fail
        refine (refBit_c hx (by omega) _ (by omega) (by omega) false (by rw [Ek.out]; exact Ht.out)).mono ?_
        rintro e w1 ⟨rfl, rfl⟩
        go_wp2
        go_round
        case rel => exact ⟨k - 1, by omega, by go_num, hb2⟩
        case measure => simp [intOf]; omega

/-- A difference that the reference makes limb by limb. -/
def RSub (xs ys zs : List Nat) (k br : Nat) : Prop := zs.length = k ∧ Small zs ∧ val zs + val (ys.take k) = val (xs.take k) + br * 4294967296 ^ k ∧ br ≤ 1

theorem RSub.start (xs ys : List Nat) : RSub xs ys [] 0 0 := ⟨rfl, small_nil, by simp [val], by omega⟩
theorem sub_step {S X Y z y c P lo hi : Nat} (h : S + Y = X + c * P) (e : lo + y + c = z + hi * 4294967296) : S + P * lo + (Y + P * y) = X + P * z + hi * (P * 4294967296) := by
  have h1 := congrArg (P * ·) e
  simp only [Nat.mul_add] at h1
  rw [Nat.mul_left_comm hi P, Nat.mul_comm c P] at *
  omega
theorem RSub.step0 {xs ys zs : List Nat} {k br lo hi : Nat} (h : RSub xs ys zs k br) (hs : lo < 4294967296) (hi1 : hi ≤ 1) (e : lo + lim ys k + br = lim xs k + hi * 4294967296) : RSub xs ys (zs ++ [lo]) (k + 1) hi := by
  obtain ⟨h1, h2, h3, h4⟩ := h
  have hv : val (zs ++ [lo]) = val zs + 4294967296 ^ k * lo := by rw [val_append, h1]; simp [val]
  have e2 : 4294967296 ^ (k + 1) = 4294967296 ^ k * 4294967296 := Nat.pow_succ ..
  refine ⟨by simp [h1], small_append.2 ⟨h2, small_cons.2 ⟨hs, small_nil⟩⟩, ?_, hi1⟩
  rw [hv, val_take_lim, val_take_lim, e2]
  exact sub_step h3 e
theorem RSub.step {xs ys zs : List Nat} {k br : Nat} (h : RSub xs ys zs k br) (hx : Small xs) (hy : Small ys) : RSub xs ys (zs ++ [diffLo (lim xs k) (lim ys k) br]) (k + 1) (diffHi (lim xs k) (lim ys k) br) :=
  h.step0 (diffLo_lt _ _ _) (diffHi_le _ _ _) (diff_parts (lim_lt hx k) (lim_lt hy k) h.2.2.2)
theorem RSub.done {xs ys zs : List Nat} {k br : Nat} (h : RSub xs ys zs k br) (hk : xs.length = k) (hle : val ys ≤ val xs) (hx : Small xs) : val zs = val xs - val ys := by
  obtain ⟨h1, h2, h3, h4⟩ := h
  have hz := val_lt h2
  rw [h1] at hz
  have hxl := val_lt hx
  rw [hk] at hxl
  rw [List.take_of_length_le (l := xs) (by omega)] at h3
  have hy : val (ys.take k) = val ys := by
    by_cases hky : ys.length ≤ k
    · rw [List.take_of_length_le hky]
    · have e := val_split ys k (by omega)
      have h0 : val (ys.drop k) = 0 := by
        refine Classical.byContradiction fun hn => ?_
        have : 4294967296 ^ k * 1 ≤ 4294967296 ^ k * val (ys.drop k) := Nat.mul_le_mul_left _ (by omega)
        omega
      rw [h0] at e
      omega
  rw [hy] at h3
  rcases (show br = 0 ∨ br = 1 by omega) with rfl | rfl
  · omega
  · omega

theorem diffHi_yes {x y c : Nat} (h : x < y + c) : diffHi x y c = 1 := by simp [diffHi, h]
theorem diffHi_no {x y c : Nat} (h : ¬ x < y + c) : diffHi x y c = 0 := by simp [diffHi, h]

set_option maxHeartbeats 800000 in
theorem refSub_o {A A' : Option Addr} {n c n' c' : Nat} {xs ys : List Nat} {a b L L' : Nat} {w : World} (hx : NN w A n c xs a L) (hy : NN w A' n' c' ys b L') (h1 : L ≤ 100000000) (h2 : L' ≤ 100000000) (hab : b ≤ a) :
    Calls Tryz.prog 116 #[.slice A n c, .slice A' n' c'] w fun e w' => ∃ A2 n2 c2, e = .returned (.slice A2 n2 c2) ∧ OwnN w' w.heap.size A2 n2 c2 (limbs (a - b)) ∧ Below w.heap.size w w' := by
  have hle := hx.le
  have hle' := hy.le
  have Hlx := Lib.hid hx.isN.len
  have Hab := Lib.hid hab
  clear hab
  go_enter Tryz.func116, Tryz.ntmps116
  go_wp2
  go_loopw [7, 6, 5] (fun i cy v wr => ∃ (k br : Nat) (zs : List Nat) (A2 : Option Addr) (c2 : Nat), k ≤ n ∧ i = .int .i64 (k : Int) ∧ cy = .int .u64 (br : Int) ∧ v = .slice A2 k c2 ∧ RSub xs ys zs k br ∧ OwnN wr w.heap.size A2 k c2 zs ∧ Below w.heap.size w wr) (fun i _ _ _ => n - (intOf i).toNat)
  case atStart => exact ⟨0, 0, [], none, 0, by omega, rfl, rfl, rfl, RSub.start _ _, OwnN.nil _ _, Below.refl _ _⟩
  case round =>
    obtain ⟨k, br, zs, A2, c2, hk, rfl, rfl, rfl, hinv, how, bw⟩ := hrel
    have Hinv := Lib.hid hinv
    have hbr := hinv.2.2.2
    clear hinv
    have h_x := hx.below bw
    have h_y := hy.below bw
    by_cases hgo : k < n
    · have b1 := lim_lt hx.isN.small k
      have b2 := lim_lt hy.isN.small k
      obtain ⟨sl, hsl⟩ : ∃ sl, sl = diffLo (lim xs k) (lim ys k) br := ⟨_, rfl⟩
      obtain ⟨sh, hsh⟩ : ∃ sh, sh = diffHi (lim xs k) (lim ys k) br := ⟨_, rfl⟩
      have hpar := diff_parts b1 b2 hbr
      have hsl2 : sl < 4294967296 := by rw [hsl]; exact diffLo_lt _ _ _
      have Hst : RowKit.Hid (RSub xs ys (zs ++ [sl]) (k + 1) sh) := by
        show RSub _ _ _ _ _
        rw [hsl, hsh]; exact Hinv.out.step hx.isN.small hy.isN.small
      have Hown : RowKit.Hid ((wr.alloc (.cells #[Value.int IntKind.u32 (sl : Int)] 38)).ownsRow w.heap.size 38 1 (.slice A2 k c2) k (zs.map limV)) := (how.alloc _).row
      have Hlit : RowKit.Hid (NN (wr.alloc (.cells #[Value.int IntKind.u32 (sl : Int)] 38)) (some ⟨wr.heap.size, 0, none⟩) 1 1 [sl] (val [sl]) 1) := lit_c wr [sl] (by intro x hx; simp at hx; omega) 1 rfl
      have Hb : RowKit.Hid (k ≤ 1000000000 ∧ 1 ≤ 1000000000 ∧ w.heap.size ≤ (wr.alloc (.cells #[Value.int IntKind.u32 (sl : Int)] 38)).heap.size ∧ Small zs) := ⟨by omega, by omega, by have := bw.size; simp; omega, how.small⟩
      have How := Lib.hid how
      have Hbw := Lib.hid bw
      clear how bw
      by_cases hlt : lim xs k < lim ys k + br
      case' pos =>
        rw [diffHi_yes hlt] at hpar hsh
        subst hsh
        rw [← hsl] at hpar
        have es : ((lim xs k : Nat) : Int) + 4294967296 - (((lim ys k : Nat) : Int) + (br : Int)) = ((sl : Nat) : Int) := by omega
      case' neg =>
        rw [diffHi_no hlt] at hpar hsh
        subst hsh
        rw [← hsl] at hpar
        have es : ((lim xs k : Nat) : Int) - (((lim ys k : Nat) : Int) + (br : Int)) = ((sl : Nat) : Int) := by omega
      all_goals
        clear hpar hsl
        go_wp2_with fail
        refine (refAt_c h_x (by omega) k (by omega)).mono ?_
        rintro e w1 ⟨rfl, rfl⟩
        go_wp2_with fail
        refine (refAt_c h_y (by omega) k (by omega)).mono ?_
        rintro e w1 ⟨rfl, rfl⟩
        go_wp2_with (at_builtin; refine wpList_append_nat rfl _ _ rfl w.heap.size _ k zs rfl Hown (some ⟨wr.heap.size, 0, none⟩) 1 1 [sl] (val [sl]) 1 rfl Hlit Hb ?_)
        intro A3 c3 w3 how3 hg3
        have bw3 := below_grown Hbw.out How.out hg3.out
        have How3 := how3.out
        clear how3 hg3 Hown Hlit Hb How Hbw
        go_wp2
        go_roundw
        case rel => exact ⟨k + 1, _, zs ++ [sl], A3, c3, by omega, by go_num, rfl, rfl, Hst.out, How3, bw3⟩
        case measure => simp [intOf]; omega
    · obtain rfl : k = n := by omega
      have hv : val zs = a - b := by
        rw [Hinv.out.done Hlx.out (by rw [hx.val, hy.val]; exact Hab.out) hx.isN.small, hx.val, hy.val]
      have hz : NN wr A2 k c2 zs (a - b) L := ⟨how.isN, hv, how.caps.1, by omega⟩
      clear hv how
      go_wp2_with fail
      refine (refTrim_o hz (by omega)).mono ?_
      rintro e w4 ⟨A4, n4, c4, rfl, h4, bn⟩
      go_wp2
      go_ret
      exact ⟨_, _, _, rfl, h4.mono bw.size, below_two bw bn⟩

theorem refSub_c {A A' : Option Addr} {n c n' c' : Nat} {xs ys : List Nat} {a b L L' : Nat} {w : World} (hx : NN w A n c xs a L) (hy : NN w A' n' c' ys b L') (h1 : L ≤ 100000000) (h2 : L' ≤ 100000000) (hab : b ≤ a) :
    Calls Tryz.prog 116 #[.slice A n c, .slice A' n' c'] w fun e w' => ∃ A2 n2 c2, e = .returned (.slice A2 n2 c2) ∧ NN w' A2 n2 c2 (limbs (a - b)) (a - b) L ∧ Below w.heap.size w w' := by
  have hl := lt_pow hx
  refine (refSub_o hx hy h1 h2 hab).mono ?_
  rintro e w' ⟨A2, n2, c2, rfl, how, hb⟩
  exact ⟨A2, n2, c2, rfl, NN.own how (Nat.lt_of_le_of_lt (Nat.sub_le _ _) hl), hb⟩

theorem refCmp_c {A A' : Option Addr} {n c n' c' : Nat} {xs ys : List Nat} {a b L L' : Nat} {w : World} (hx : NN w A n c xs a L) (hy : NN w A' n' c' ys b L') (h1 : L ≤ 1000000000) (h2 : L' ≤ 1000000000) (v : Int) (hv : cmpI a b = v) :
    Calls Tryz.prog 115 #[.slice A n c, .slice A' n' c'] w fun e w' => e = .returned (.int .i64 v) ∧ w = w' := by
  have := refCmp_any A n c xs A' n' c' ys w hx.isN hy.isN (by have := hx.le; omega) (by have := hy.le; omega)
  rwa [hx.val, hy.val, hv] at this

theorem refOf_c (v : Nat) (V : Int) (hV : V = v) (h : v < 18446744073709551616) (w : World) :
    Calls Tryz.prog 104 #[.int .u64 V] w fun e w' => ∃ A2 n2 c2, e = .returned (.slice A2 n2 c2) ∧ NN w' A2 n2 c2 (limbs v) v 2 ∧ Below w.heap.size w w' := by
  subst hV
  refine (refOf_any (v : Int) w (by omega) (by omega)).mono ?_
  rintro e w' ⟨A2, n2, c2, rfl, how, hb⟩
  rw [Int.toNat_natCast] at how
  exact ⟨A2, n2, c2, rfl, NN.own how (by omega), hb⟩

end Go.Proofs.YtjpoolddgocbbaaGreatDoor

/- What math/bits' Div32 and package quo's Small answer, as contracts over memory: quotient and rest by one limb. Conditions: the list reads as limbs, of at most 10^8 of them; the high word is below the divisor. -/
namespace Go.Proofs.YtjpoolddgocbbaaGreatDoor
open Go.RowKit Limb
set_option linter.unusedVariables false

theorem or_hi32 (x y : Nat) (hx : x < 4294967296) (hy : y < 4294967296) : bits BinOp.or IntKind.u64 ((x : Int) * 4294967296) (y : Int) = ((x * 4294967296 + y : Nat) : Int) := by
  have e1 : (x : Int) * 4294967296 = ((x * 4294967296 : Nat) : Int) := by omega
  rw [e1, u64_or_nat _ _ (by omega) (by omega), Nat.mul_comm x, show (4294967296 : Nat) = 2 ^ 32 from rfl, Nat.two_pow_add_eq_or_of_lt (by omega)]

set_option maxHeartbeats 400000 in
theorem div32_nat (x y v : Nat) (w : World) (hx : x < v) (hy : y < 4294967296) (hv : v < 4294967296) :
    Calls Tryz.prog 121 #[.int .u32 (x : Int), .int .u32 (y : Int), .int .u32 (v : Int)] w fun e w' => e = .returned (.tuple #[.int .u32 (((x * 4294967296 + y) / v : Nat) : Int), .int .u32 (((x * 4294967296 + y) % v : Nat) : Int)]) ∧ ∃ n, w' = w.drewN n := by
  have hz := one_digit hx hy
  have hm : (x * 4294967296 + y) % v < v := Nat.mod_lt _ (by omega)
  have hs : bits BinOp.or IntKind.u64 ((x : Int) * 4294967296) (y : Int) = ((x * 4294967296 + y : Nat) : Int) := or_hi32 x y (by omega) hy
  obtain ⟨z, hzz⟩ : ∃ z, z = x * 4294967296 + y := ⟨_, rfl⟩
  have hzl : z < 18446744073709551616 := by omega
  rw [← hzz] at hz hm hs ⊢
  obtain ⟨q, hq⟩ : ∃ q, q = z / v := ⟨_, rfl⟩
  obtain ⟨m, hm2⟩ : ∃ m, m = z % v := ⟨_, rfl⟩
  have eq1 : (z : Int) / (v : Int) = (q : Int) := by rw [hq]; simp
  have em1 : (z : Int) % (v : Int) = (m : Int) := by rw [hm2]; simp
  rw [← hq] at hz ⊢
  rw [← hm2] at hm ⊢
  have hv0 : ((v : Int) != 0) = true := by simp; omega
  have hv1 : ((v : Int) == 0) = false := by simp; omega
  clear hzz hq hm2
  go_enter Tryz.func121, Tryz.ntmps121
  go_wp2
  go_quiet (fail)
  go_wp2
  go_ret2
  exact ⟨rfl, _, rfl⟩

theorem ret_small {A : Option Addr} {n c r s : Nat} (h : r = s) : Ending.returned (.tuple #[.slice A n c, .int .u32 ((r : Nat) : Int), .bool true]) = .returned (.tuple #[.slice A n c, .int .u32 ((s : Nat) : Int), .bool true]) := by rw [h]

set_option maxHeartbeats 1000000 in
theorem quoSmall_o {A : Option Addr} {n c : Nat} {xs : List Nat} {a L : Nat} {w : World} (hx : NN w A n c xs a L) (h1 : L ≤ 100000) (v : Nat) (V : Int) (hV : V = v) (hv : v < 4294967296) (h0 : v ≠ 0) :
    Calls Tryz.prog 98 #[.slice A n c, .int .u32 V] w fun e w' => ∃ A1 n1 c1, e = .returned (.tuple #[.slice A1 n1 c1, .int .u32 ((a % v : Nat) : Int), .bool true]) ∧ OwnN w' w.heap.size A1 n1 c1 (limbs (a / v)) ∧ Below w.heap.size w w' := by
  subst hV
  have hv0 : ((v : Int) == 0) = false := by simp; omega
  have hle := hx.le
  have Hval := Lib.hid hx.val
  have Hlt := Lib.hid (lt_pow hx)
  have hT := trim_any A n c xs w hx.isN hx.cap (by omega)
  have hlt := trim_len_le xs
  have hl := hx.isN.len
  have hsm : Small (trim xs) := by rw [trim_eq_limbs hx.isN.small]; exact small_limbs _
  have Hvt : RowKit.Hid (val (trim xs) = a) := by show _ = _; rw [trim_eq_limbs hx.isN.small, val_limbs, Hval.out]
  have hlen : (trim xs).length ≤ 100000 := by omega
  clear hl hlt hx hle Hval
  go_enter Tryz.func98, Tryz.ntmps98
  go_wp2_with fail
  refine hT.mono ?_
  rintro e w1 ⟨A1, n1, c1, rfl, how, hb⟩
  generalize trim xs = ys at *
  have hyl := how.len
  subst hyl
  have How := Lib.hid how
  have Hb := Lib.hid hb
  have hi0 := Lib.hid (OneInv.start ys h0)
  clear how hb hT
  go_wp2
  go_loopw [7, 5] (fun i rv wr => ∃ (k r : Nat) (zs : List Nat), k ≤ ys.length ∧ i = .int .i64 ((k : Int) - 1) ∧ rv = .int .u32 (r : Int) ∧ RowKit.Hid (OneInv ys zs v k r) ∧ RowKit.Hid (OwnN wr w.heap.size A1 ys.length c1 zs) ∧ RowKit.Hid (Below w.heap.size w wr)) (fun i _ _ => (intOf i + 1).toNat)
  case atStart => exact ⟨ys.length, 0, ys, Nat.le_refl _, rfl, rfl, hi0, How, Hb⟩
  case round =>
    clear hi0 How Hb
    obtain ⟨k, r, zs, hk, rfl, rfl, Hinv, How, Hb⟩ := hrel
    by_cases hk0 : k = 0
    · subst hk0
      have hd := Hinv.out.done
      have Hd1 : RowKit.Hid (val zs = a / v) := by show _ = _; rw [hd.1, Hvt.out]
      have hr2 : r = a % v := by rw [hd.2, Hvt.out]
      have Hr := Lib.hid hr2
      have hz := How.out.isN
      have hcap := How.out.caps
      have hsz := How.out.small
      clear hd hr2
      go_wp2_with fail
      refine (trim_any A1 ys.length c1 zs _ hz hcap.1 (by omega)).mono ?_
      rintro e w2 ⟨A2, n2, c2, rfl, how2, hb2⟩
      rw [trim_eq_limbs hsz, Hd1.out] at how2
      have HN := Lib.hid (how2.mono Hb.out.size)
      have HW := Lib.hid (below_two Hb.out hb2)
      clear how2 hb2 hz hcap hsz Hinv How Hb
      go_wp2
      go_ret3
      exact ⟨_, _, _, ret_small Hr.out, HN.out, HW.out⟩
    · obtain ⟨j, rfl⟩ : ∃ j, k = j + 1 := ⟨k - 1, by omega⟩
      have ej : ((j + 1 : Nat) : Int) - 1 = (j : Int) := by omega
      rw [ej]
      obtain ⟨g, rfl, hBg, hgl⟩ := How.out.addr (by omega)
      have h2 := How.out.cell (k := j) (by omega)
      have hr := Hinv.out.2.2.2
      have hz := lim_lt How.out.small j
      clear ej
      go_wp2_with fail
      refine (div32_nat r (lim zs j) v _ hr hz hv).mono ?_
      rintro e w2 ⟨rfl, nd, rfl⟩
      have how2 := How.out.below (below_drewN (Below.refl _ _) nd) (Nat.le_refl _)
      have hb2 := below_drewN Hb.out nd
      have hdl := one_digit hr hz
      have Hst := Lib.hid (Hinv.out.step (k := j) (by omega))
      generalize wr.drewN nd = w2 at *
      obtain ⟨q, hq⟩ : ∃ q, q = (r * 4294967296 + lim zs j) / v := ⟨_, rfl⟩
      obtain ⟨m, hm⟩ : ∃ m, m = (r * 4294967296 + lim zs j) % v := ⟨_, rfl⟩
      rw [← hq] at hdl Hst ⊢
      rw [← hm] at Hst ⊢
      have h3 := how2.cell (k := j) (by omega)
      have h4 := how2.1.frozenAt j
      have Hset := Lib.hid (how2.set j hdl)
      have Hb2 : RowKit.Hid (Below w.heap.size w (w2.setCell ⟨g, j, none⟩ (.int .u32 (q : Int)))) := hb2.setCell (by exact hBg) _
      clear hq hm How Hb Hinv how2 hb2 h2 hz
      go_wp2
      go_roundw
      case rel => exact ⟨j, m, zs.set j q, by omega, by go_num, rfl, Hst, Hset, Hb2⟩
      case measure => simp [intOf] <;> omega

theorem quoSmall_yes {A : Option Addr} {n c : Nat} {xs : List Nat} {a L : Nat} {w : World} (hx : NN w A n c xs a L) (h1 : L ≤ 100000) (v : Nat) (V : Int) (hV : V = v) (hv : v < 4294967296) (h0 : v ≠ 0) :
    Calls Tryz.prog 98 #[.slice A n c, .int .u32 V] w fun e w' => ∃ A1 n1 c1, e = .returned (.tuple #[.slice A1 n1 c1, .int .u32 ((a % v : Nat) : Int), .bool true]) ∧ NN w' A1 n1 c1 (limbs (a / v)) (a / v) L ∧ Below w.heap.size w w' := by
  have Hlt := Lib.hid (lt_pow hx)
  refine (quoSmall_o hx h1 v V hV hv h0).mono ?_
  rintro e w' ⟨A1, n1, c1, rfl, how, hb⟩
  exact ⟨A1, n1, c1, rfl, NN.own how (Nat.lt_of_le_of_lt (Nat.div_le_self _ _) Hlt.out), hb⟩

theorem quoSmall_no {A : Option Addr} {n c : Nat} {xs : List Nat} {a L : Nat} {w : World} (hx : NN w A n c xs a L) (h1 : L ≤ 100000) (V : Int) (hV : V = 0) :
    Calls Tryz.prog 98 #[.slice A n c, .int .u32 V] w fun e w' => ∃ A1 c1, e = .returned (.tuple #[.slice A1 0 c1, .int .u32 0, .bool false]) ∧ Below w.heap.size w w' := by
  subst hV
  go_enter Tryz.func98, Tryz.ntmps98
  go_wp2
  go_ret3
  exact ⟨none, 0, rfl, Below.refl _ _⟩

end Go.Proofs.YtjpoolddgocbbaaGreatDoor

/- What package quo's lessen and raise answer, as contracts over memory: a multiple of a row is taken from another one, a row is paid back. Conditions: the row that is written is the call's own, one limb longer than the other; at most 10^9 limbs. -/
namespace Go.Proofs.YtjpoolddgocbbaaGreatDoor
open Go.RowKit Limb
set_option linter.unusedVariables false

set_option maxHeartbeats 1000000 in
theorem lessen_any (w0 w : World) (hb : Below w0.heap.size w0 w) (g m cs : Nat) (rs : List Nat) (how : OwnN w w0.heap.size (some ⟨g, 0, none⟩) (m + 1) cs rs)
    (A : Option Addr) (c : Nat) (bs : List Nat) (hx : IsN w0 A m bs) (v : Nat) (V : Int) (hV : V = v) (hv : v < 4294967296) (hm : m ≤ 1000000000) (t : Bool) (ht : decide (val rs < v * val bs) = t) :
    Calls Tryz.prog 130 #[.slice (some ⟨g, 0, none⟩) (m + 1) cs, .slice A m c, .int .u32 V] w fun e w' => e = .returned (.bool t) ∧
      (∃ zs tt, OwnN w' w0.heap.size (some ⟨g, 0, none⟩) (m + 1) cs zs ∧ val (zs.take m) + v * val bs = val (rs.take m) + tt * 4294967296 ^ m) ∧ Below w0.heap.size w0 w' ∧ Others g w w' := by
  subst hV
  have hBg : w0.heap.size ≤ g := by
    obtain ⟨g', e, h1, _⟩ := how.addr (by omega)
    injection e with e; injection e with e; subst e; exact h1
  have hsr := how.small
  have hsx := hx.small
  have Hxl := Lib.hid hx.len
  have Hrl := Lib.hid how.len
  have Ht := Lib.hid ht
  have Hi0 := Lib.hid (LessInv.start rs bs v)
  have How := Lib.hid how
  have Hb := Lib.hid hb
  clear ht how hb
  go_enter Tryz.func130, Tryz.ntmps130
  go_wp2
  go_loopw [13, 7, 8] (fun i cy bo wr => ∃ (k cr br : Nat) (zs : List Nat), k ≤ m ∧ i = .int .i64 (k : Int) ∧ cy = .int .u64 (cr : Int) ∧ bo = .int .u32 (br : Int) ∧ RowKit.Hid (LessInv rs bs zs v k cr br) ∧ RowKit.Hid (OwnN wr w0.heap.size (some ⟨g, 0, none⟩) (m + 1) cs zs) ∧ RowKit.Hid (Below w0.heap.size w0 wr) ∧ RowKit.Hid (Others g w wr)) (fun i _ _ _ => m - (intOf i).toNat)
  case atStart => exact ⟨0, 0, 0, rs, Nat.zero_le _, rfl, rfl, rfl, Hi0, How, Hb, Others.refl _ _⟩
  case round =>
    clear How Hb Hi0
    obtain ⟨k, cr, br, zs, hk, rfl, rfl, rfl, Hinv, How, Hb, Ho⟩ := hrel
    have hcr := Hinv.out.2.2.2.1
    have hbr := Hinv.out.2.2.2.2
    by_cases hkm : k < m
    · obtain ⟨b1, o1, rfl, hb1, hc1⟩ := hx.2.2 (by omega)
      have h1 : wr.cell? ⟨b1, o1 + k, none⟩ = some (.int .u32 ((lim bs k : Nat) : Int)) := (Hb.out.cell (p := ⟨b1, o1 + k, none⟩) hb1).trans (hc1 k hkm)
      have h3 := How.out.cell (k := k) (by omega)
      have h4 := How.out.1.frozenAt k
      have l1 := lim_lt hsx k
      have l2 := lim_lt How.out.small k
      have hq := limb_prod l1 hv
      have hq1 : ((lim bs k : Nat) : Int) * (v : Int) ≤ 18446744065119617025 := by
        have : ((lim bs k * v : Nat) : Int) ≤ 18446744065119617025 := by omega
        rwa [Int.natCast_mul] at this
      have hq0 : 0 ≤ ((lim bs k : Nat) : Int) * (v : Int) := by
        have : 0 ≤ ((lim bs k * v : Nat) : Int) := by omega
        rwa [Int.natCast_mul] at this
      obtain ⟨lo, hlo⟩ : ∃ lo, lo = (cr + lim bs k * v) % 4294967296 := ⟨_, rfl⟩
      obtain ⟨hi, hhi⟩ : ∃ hi, hi = (cr + lim bs k * v) / 4294967296 := ⟨_, rfl⟩
      have eI : ((lim bs k * v : Nat) : Int) = ((lim bs k : Nat) : Int) * (v : Int) := Int.natCast_mul _ _
      have hlo2 : lo < 4294967296 := by omega
      have hsum : cr + lim bs k * v = lo + hi * 4294967296 := by omega
      have elo : ((cr : Int) + ((lim bs k : Nat) : Int) * (v : Int)) % 4294967296 = (lo : Int) := by omega
      have ehi : ((cr : Int) + ((lim bs k : Nat) : Int) * (v : Int)) / 4294967296 = (hi : Int) := by omega
      have hdl := diffLo_lt (lim zs k) lo br
      have Hst := Lib.hid (Hinv.out.step hsr (by have := Hrl.out; omega) hsx hv hlo2 hsum)
      have Hset := Lib.hid (How.out.set k hdl)
      have Hb2 : RowKit.Hid (Below w0.heap.size w0 (wr.setCell ⟨g, k, none⟩ (.int .u32 ((diffLo (lim zs k) lo br : Nat) : Int)))) := Hb.out.setCell (by exact hBg) _
      have Ho2 : RowKit.Hid (Others g w (wr.setCell ⟨g, k, none⟩ (.int .u32 ((diffLo (lim zs k) lo br : Nat) : Int)))) := Ho.out.setCell k _
      clear hq hlo hhi hsum eI
      go_wp2_with (go_at_call 102; (with_reducible refine (sub32_nat (lim zs k) lo br _ l2 hlo2 hbr).mono ?_); rintro e w2 ⟨rfl, rfl⟩)
      go_roundw
      case rel => exact ⟨k + 1, hi, _, _, by omega, by go_num, rfl, rfl, Hst, Hset, Hb2, Ho2⟩
      case measure => simp [intOf]; omega
    · obtain rfl : k = m := by omega
      have h3 := How.out.cell (k := k) (by omega)
      have hv0 := Hinv.out.2.1
      have hl0 := Hinv.out.2.2.1 k (Nat.le_refl _)
      have hbt : bs.take k = bs := List.take_of_length_le (by rw [Hxl.out]; exact Nat.le_refl _)
      rw [hbt] at hv0
      have hzt := val_lt (small_take How.out.small k)
      rw [List.length_take, How.out.len, Nat.min_eq_left (by omega)] at hzt
      have hR : val rs = val (rs.take k) + 4294967296 ^ k * lim rs k := by
        have := val_take_lim rs k
        rwa [List.take_of_length_le (by rw [Hrl.out]; exact Nat.le_refl _)] at this
      have Htop := Lib.hid (less_top hv0 hzt hR)
      have Hv0 := Lib.hid hv0
      have l2 := lim_lt How.out.small k
      rw [← hl0] at Htop
      clear hv0 hl0 hbt hzt hR Hinv
      by_cases hlt : lim zs k < cr + br
      · have Ht2 : RowKit.Hid (t = true) := by show _ = _; rw [← Ht.out]; simpa using Htop.out.2 hlt
        have hd : decide (((lim zs k : Nat) : Int) < (cr : Int) + (br : Int)) = true := by simp; omega
        go_wp2
        go_ret
        exact ⟨ret_bool Ht2.out.symm, ⟨zs, _, How.out, Hv0.out⟩, Hb.out, Ho.out⟩
      · have Ht2 : RowKit.Hid (t = false) := by show _ = _; rw [← Ht.out]; simpa using fun h => hlt (Htop.out.1 h)
        have hd : decide (((lim zs k : Nat) : Int) < (cr : Int) + (br : Int)) = false := by simp; omega
        go_wp2
        go_ret
        exact ⟨ret_bool Ht2.out.symm, ⟨zs, _, How.out, Hv0.out⟩, Hb.out, Ho.out⟩

set_option maxHeartbeats 1000000 in
theorem raise_any (w0 w : World) (hb : Below w0.heap.size w0 w) (g m cs : Nat) (rs : List Nat) (how : OwnN w w0.heap.size (some ⟨g, 0, none⟩) (m + 1) cs rs)
    (A : Option Addr) (c : Nat) (bs : List Nat) (hx : IsN w0 A m bs) (hm : m ≤ 1000000000) :
    Calls Tryz.prog 131 #[.slice (some ⟨g, 0, none⟩) (m + 1) cs, .slice A m c] w fun e w' => e = .returned (.tuple #[]) ∧
      (∃ zs cc, OwnN w' w0.heap.size (some ⟨g, 0, none⟩) (m + 1) cs zs ∧ val (zs.take m) + cc * 4294967296 ^ m = val (rs.take m) + val bs) ∧ Below w0.heap.size w0 w' ∧ Others g w w' := by
  have hBg : w0.heap.size ≤ g := by
    obtain ⟨g', e, h1, _⟩ := how.addr (by omega)
    injection e with e; injection e with e; subst e; exact h1
  have hsr := how.small
  have hsx := hx.small
  have Hxl := Lib.hid hx.len
  have Hrl := Lib.hid how.len
  have Hi0 := Lib.hid (AddInv.start rs bs)
  have How := Lib.hid how
  have Hb := Lib.hid hb
  clear how hb
  go_enter Tryz.func131, Tryz.ntmps131
  go_wp2
  go_loopw [9, 4] (fun i cy wr => ∃ (k cr : Nat) (zs : List Nat), k ≤ m ∧ i = .int .i64 (k : Int) ∧ cy = .int .u32 (cr : Int) ∧ RowKit.Hid (AddInv rs bs zs k cr) ∧ RowKit.Hid (OwnN wr w0.heap.size (some ⟨g, 0, none⟩) (m + 1) cs zs) ∧ RowKit.Hid (Below w0.heap.size w0 wr) ∧ RowKit.Hid (Others g w wr)) (fun i _ _ => m - (intOf i).toNat)
  case atStart => exact ⟨0, 0, rs, Nat.zero_le _, rfl, rfl, Hi0, How, Hb, Others.refl _ _⟩
  case round =>
    clear How Hb Hi0
    obtain ⟨k, cr, zs, hk, rfl, rfl, Hinv, How, Hb, Ho⟩ := hrel
    have hcr := Hinv.out.2.2.2
    by_cases hkm : k < m
    · obtain ⟨b1, o1, rfl, hb1, hc1⟩ := hx.2.2 (by omega)
      have h1 : wr.cell? ⟨b1, o1 + k, none⟩ = some (.int .u32 ((lim bs k : Nat) : Int)) := (Hb.out.cell (p := ⟨b1, o1 + k, none⟩) hb1).trans (hc1 k hkm)
      have h3 := How.out.cell (k := k) (by omega)
      have h4 := How.out.1.frozenAt k
      have l1 := lim_lt hsx k
      have l2 := lim_lt How.out.small k
      have hdl := sumLo_lt (lim zs k) (lim bs k) cr
      have Hst := Lib.hid (Hinv.out.step hsr hsx (by have := Hrl.out; omega))
      have Hset := Lib.hid (How.out.set k hdl)
      have Hb2 : RowKit.Hid (Below w0.heap.size w0 (wr.setCell ⟨g, k, none⟩ (.int .u32 ((sumLo (lim zs k) (lim bs k) cr : Nat) : Int)))) := Hb.out.setCell (by exact hBg) _
      have Ho2 : RowKit.Hid (Others g w (wr.setCell ⟨g, k, none⟩ (.int .u32 ((sumLo (lim zs k) (lim bs k) cr : Nat) : Int)))) := Ho.out.setCell k _
      go_wp2_with (go_at_call 81; (with_reducible refine (add32_nat (lim zs k) (lim bs k) cr _ l2 l1 hcr).mono ?_); rintro e w2 ⟨rfl, rfl⟩)
      go_roundw
      case rel => exact ⟨k + 1, _, _, by omega, by go_num, rfl, Hst, Hset, Hb2, Ho2⟩
      case measure => simp [intOf]; omega
    · obtain rfl : k = m := by omega
      have hv0 := Hinv.out.2.1
      have hbt : bs.take k = bs := List.take_of_length_le (by rw [Hxl.out]; exact Nat.le_refl _)
      rw [hbt] at hv0
      have Hv0 := Lib.hid hv0
      clear hv0 hbt Hinv
      go_wp2
      first | go_end0 | refine bodyPost_ret (results_none rfl _ _ _) rfl ?_
      exact ⟨rfl, ⟨zs, _, How.out, Hv0.out⟩, Hb.out, Ho.out⟩

end Go.Proofs.YtjpoolddgocbbaaGreatDoor

/- What package quo's guess and takeOut answer, as contracts over memory: how often a row is in another one. Conditions: the row that is written is the call's own, one limb longer than the other, and less than it times 2^32; the other one has two limbs or more, its highest bit set; at most 10^9 limbs. -/
namespace Go.Proofs.YtjpoolddgocbbaaGreatDoor
open Go.RowKit Limb
set_option linter.unusedVariables false

theorem guessV_dec {top high next r2 o p : Nat} (ho : guessO top high = o) (h1 : top - o * high ≤ 4294967295) (h2 : (top - o * high) * 4294967296 + r2 < o * next) (hp : o = p + 1) : guessV top high next r2 = p := by
  unfold guessV guessT
  rw [ho]
  simp [h1, h2]
  omega
theorem guessV_far {top high next r2 o : Nat} (ho : guessO top high = o) (h1 : ¬ top - o * high ≤ 4294967295) : guessV top high next r2 = o := by
  unfold guessV guessT
  rw [ho]
  simp [h1]
theorem guessV_stay {top high next r2 o : Nat} (ho : guessO top high = o) (h2 : ¬ (top - o * high) * 4294967296 + r2 < o * next) : guessV top high next r2 = o := by
  unfold guessV guessT
  rw [ho]
  simp [h2]

/-- Memory is as it was. -/
def Still (w w' : World) : Prop := Below w.heap.size w w' ∧ ∀ g, Others g w w'
theorem still_drewN {a w : World} (h : Still a w) (n : Nat) : Still a (w.drewN n) := ⟨below_drewN h.1 n, h.2⟩
theorem still_refl (w : World) : Still w w := ⟨Below.refl _ _, fun _ => Others.refl _ _⟩

theorem nat_le_atom {a b : Nat} {x y : Int} (h : a ≤ b) (hx : x = (a : Int)) (hy : y = (b : Int)) : x ≤ y := by omega

set_option maxHeartbeats 2000000 in
theorem guess_any (w : World) (A : Option Addr) (n c : Nat) (rs : List Nat) (hr : IsN w A (n + 1) rs) (A' : Option Addr) (c' : Nat) (bs : List Nat) (hx : IsN w A' n bs) (hn : 2 ≤ n) (hm : n ≤ 1000000000) (hh : 0 < lim bs (n - 1)) (q : Nat)
    (hq : guessV (lim rs n * 4294967296 + lim rs (n - 1)) (lim bs (n - 1)) (lim bs (n - 2)) (lim rs (n - 2)) = q) :
    Calls Tryz.prog 129 #[.slice A (n + 1) c, .slice A' n c'] w fun e w' => e = .returned (.int .u32 (q : Int)) ∧ Still w w' := by
  obtain ⟨b1, o1, rfl, hb1, hc1⟩ := hr.2.2 (by omega)
  obtain ⟨b2, o2, rfl, hb2, hc2⟩ := hx.2.2 (by omega)
  have r0 := hc1 n (by omega)
  have r1 := hc1 (n - 1) (by omega)
  have r2 := hc1 (n - 2) (by omega)
  have x1 := hc2 (n - 1) (by omega)
  have x2 := hc2 (n - 2) (by omega)
  have l0 := lim_lt hr.small n
  have l1 := lim_lt hr.small (n - 1)
  have l2 := lim_lt hr.small (n - 2)
  have m1 := lim_lt hx.small (n - 1)
  have m2 := lim_lt hx.small (n - 2)
  have Hq := Lib.hid hq
  clear hq hr hx hc1 hc2
  obtain ⟨high, hhi⟩ : ∃ h, h = lim bs (n - 1) := ⟨_, rfl⟩
  obtain ⟨next, hne⟩ : ∃ h, h = lim bs (n - 2) := ⟨_, rfl⟩
  obtain ⟨t0, ht0⟩ : ∃ h, h = lim rs n := ⟨_, rfl⟩
  obtain ⟨t1, ht1⟩ : ∃ h, h = lim rs (n - 1) := ⟨_, rfl⟩
  obtain ⟨t2, ht2⟩ : ∃ h, h = lim rs (n - 2) := ⟨_, rfl⟩
  rw [← hhi] at x1 m1 hh Hq
  rw [← hne] at x2 m2 Hq
  rw [← ht0] at r0 l0 Hq
  rw [← ht1] at r1 l1 Hq
  rw [← ht2] at r2 l2 Hq
  clear hhi hne ht0 ht1 ht2
  have htop : bits BinOp.or IntKind.u64 ((t0 : Int) * 4294967296) (t1 : Int) = ((t0 * 4294967296 + t1 : Nat) : Int) := or_hi32 t0 t1 l0 l1
  have htl : t0 * 4294967296 + t1 < 18446744073709551616 := by omega
  obtain ⟨top, htp⟩ : ∃ h, h = t0 * 4294967296 + t1 := ⟨_, rfl⟩
  rw [← htp] at htop htl Hq
  clear htp
  go_enter Tryz.func129, Tryz.ntmps129
  go_wp2
  go_quiet (fail)
  have hw := Lib.hid (still_drewN (still_refl w) nq)
  have r0' : (w.drewN nq).cell? ⟨b1, o1 + n, none⟩ = some (.int .u32 (t0 : Int)) := r0
  have r1' : (w.drewN nq).cell? ⟨b1, o1 + (n - 1), none⟩ = some (.int .u32 (t1 : Int)) := r1
  have r2' : (w.drewN nq).cell? ⟨b1, o1 + (n - 2), none⟩ = some (.int .u32 (t2 : Int)) := r2
  clear r0 r1 r2 x1 x2
  generalize w.drewN nq = w2 at *
  go_wp2
  go_quiet (fail)
  replace hw := Lib.hid (still_drewN hw.out nq)
  have r2 : (w2.drewN nq).cell? ⟨b1, o1 + (n - 2), none⟩ = some (.int .u32 (t2 : Int)) := r2'
  clear r0' r1' r2' htop
  generalize w2.drewN nq = w3 at *
  have hom := guessO_mul top high
  have hol := guessO_le top high
  obtain ⟨o, ho⟩ : ∃ o, guessO top high = o := ⟨_, rfl⟩
  have Ho := Lib.hid ho
  rw [ho] at hom hol
  obtain ⟨oh, hoh⟩ : ∃ x, x = o * high := ⟨_, rfl⟩
  obtain ⟨on, hon⟩ : ∃ x, x = o * next := ⟨_, rfl⟩
  have eoh : (o : Int) * (high : Int) = (oh : Int) := by rw [hoh]; exact (Int.natCast_mul _ _).symm
  have eon : (o : Int) * (next : Int) = (on : Int) := by rw [hon]; exact (Int.natCast_mul _ _).symm
  have hon2 : on ≤ 18446744065119617025 := by rw [hon]; exact Nat.mul_le_mul hol (show next ≤ 4294967295 by omega)
  rw [← hoh] at hom
  obtain ⟨left, hleft⟩ : ∃ x, x = top - oh := ⟨_, rfl⟩
  have eleft : (top : Int) - (oh : Int) = (left : Int) := by omega
  have hh1 : ((high : Int) == 0) = false := by simp; omega
  have Hfar : RowKit.Hid (¬ left ≤ 4294967295 → q = o) := fun h => by rw [← Hq.out]; exact guessV_far Ho.out (by rw [← hoh, ← hleft]; exact h)
  have Hstay : RowKit.Hid (¬ left * 4294967296 + t2 < on → q = o) := fun h => by rw [← Hq.out]; exact guessV_stay Ho.out (by rw [← hoh, ← hleft, ← hon]; exact h)
  have Hdec : RowKit.Hid (left ≤ 4294967295 → left * 4294967296 + t2 < on → ∀ p, o = p + 1 → q = p) := fun h1 h2 p hp => by
    rw [← Hq.out]; exact guessV_dec Ho.out (by rw [← hoh, ← hleft]; exact h1) (by rw [← hoh, ← hleft, ← hon]; exact h2) hp
  have hlt : left ≤ top := by omega
  obtain ⟨tq, htq⟩ : ∃ x, x = top / high := ⟨_, rfl⟩
  have etq : (top : Int) / (high : Int) = (tq : Int) := by rw [htq]; simp
  have htq2 : tq ≤ top := by rw [htq]; exact Nat.div_le_self _ _
  have homin : o = min tq 4294967295 := by rw [htq]; exact ho.symm
  clear ho hoh hon hleft htq Hq Ho
  obtain ⟨s, hs⟩ : ∃ x, x = left * 4294967296 + t2 := ⟨_, rfl⟩
  rw [← hs] at Hstay Hdec
  have Hs : RowKit.Hid (left ≤ 4294967295 → bits BinOp.or IntKind.u64 ((left : Int) * 4294967296) (t2 : Int) = (s : Int)) := fun h => by rw [hs]; exact or_hi32 left t2 (by omega) l2
  have Hon0 : RowKit.Hid (s < on → o ≠ 0) := by
    intro h h0
    rw [h0] at eon
    simp at eon
    omega
  clear hs
  by_cases hc : tq ≤ 4294967295
  case' pos =>
    obtain rfl : o = tq := by rw [homin]; exact Nat.min_eq_left hc
    have Hp : RowKit.Hid (s < on → ∃ p : Nat, o = p + 1 ∧ (o : Int) - 1 = (p : Int)) := fun h => ⟨o - 1, by have := Hon0.out h; omega, by have := Hon0.out h; omega⟩
    have ho : (o : Int) = (o : Int) := rfl
  case' neg =>
    obtain rfl : o = 4294967295 := by rw [homin]; exact Nat.min_eq_right (by omega)
    replace eoh : (4294967295 : Int) * (high : Int) = (oh : Int) := eoh
    replace eon : (4294967295 : Int) * (next : Int) = (on : Int) := eon
    have Hp : RowKit.Hid (s < on → ∃ p : Nat, 4294967295 = p + 1 ∧ (4294967295 : Int) - 1 = (p : Int)) := fun h => ⟨4294967294, by omega, by omega⟩
    have ho : (4294967295 : Int) = ((4294967295 : Nat) : Int) := rfl
  all_goals
    clear homin Hon0
    have Hho := Lib.hid ho
    clear ho
    by_cases c1 : left ≤ 4294967295
    · have hor := Hs.out c1
      by_cases c2 : s < on
      · obtain ⟨p, hp1, hp2⟩ := Hp.out c2
        have Hr : RowKit.Hid (q = p) := Hdec.out c1 c2 p hp1
        have Hp1 := Lib.hid hp1
        clear Hdec Hfar Hstay Hp hp1
        go_wp2
        go_ret
        exact ⟨ret_int (by first | (rw [Hr.out]; done) | (rw [Hr.out]; omega)), hw.out⟩
      · have Hr := Lib.hid (Hstay.out c2)
        have c3 : on ≤ s := by omega
        clear Hdec Hfar Hstay Hp c2
        go_wp2
        go_ret
        exact ⟨ret_int (by first | (rw [Hr.out]; done) | (rw [Hr.out]; omega)), hw.out⟩
    · have Hr := Lib.hid (Hfar.out c1)
      have c3 : 4294967295 < left := by omega
      clear Hdec Hfar Hstay Hp c1
      go_wp2
      go_ret
      exact ⟨ret_int (by first | (rw [Hr.out]; done) | (rw [Hr.out]; omega)), hw.out⟩

set_option maxHeartbeats 1000000 in
theorem takeOut_any (w0 w : World) (hb : Below w0.heap.size w0 w) (g m cs : Nat) (rs : List Nat) (how : OwnN w w0.heap.size (some ⟨g, 0, none⟩) (m + 1) cs rs)
    (A : Option Addr) (c : Nat) (bs : List Nat) (hx : IsN w0 A m bs) (hm2 : 2 ≤ m) (hm : m ≤ 1000000000) (hh : 2147483648 ≤ lim bs (m - 1)) (hlt : val rs < val bs * 4294967296) (q : Nat) (hq : val rs / val bs = q) :
    Calls Tryz.prog 122 #[.slice (some ⟨g, 0, none⟩) (m + 1) cs, .slice A m c] w fun e w' => e = .returned (.int .u32 (q : Int)) ∧
      (∃ zs, OwnN w' w0.heap.size (some ⟨g, 0, none⟩) (m + 1) cs zs ∧ val (zs.take m) = val rs % val bs) ∧ Below w0.heap.size w0 w' ∧ Others g w w' := by
  have hrl := how.len
  have hbl := hx.len
  obtain ⟨G, hG⟩ : ∃ G, guessV (lim rs m * 4294967296 + lim rs (m - 1)) (lim bs (m - 1)) (lim bs (m - 2)) (lim rs (m - 2)) = G := ⟨_, rfl⟩
  obtain ⟨g1, g2, g3⟩ := guess_ok how.small hx.small hm2 hrl hbl hh hlt hG
  rw [hq] at g1 g2
  have hR : val rs = val (rs.take m) + 4294967296 ^ m * lim rs m := by
    have := val_take_lim rs m
    rwa [List.take_of_length_le (by rw [hrl]; exact Nat.le_refl _)] at this
  have hdm := Nat.div_add_mod (val rs) (val bs)
  rw [hq] at hdm
  have hb0 : 0 < val bs := by
    rcases Nat.eq_zero_or_pos (val bs) with h | h
    · rw [h] at hlt; omega
    · exact h
  have hml := Nat.mod_lt (val rs) hb0
  have hbP := val_lt hx.small
  rw [hbl] at hbP
  have hr : val rs = q * val bs + val rs % val bs := by rw [Nat.mul_comm]; exact hdm.symm
  have HR := Lib.hid hR
  have Hr := Lib.hid hr
  have HrP := Lib.hid (Nat.lt_trans hml hbP)
  have Hml := Lib.hid hml
  have HG := Lib.hid hG
  have hi1 := how.isN
  have hi2 := hx.below hb
  have Hhow := Lib.hid how
  have Hb := Lib.hid hb
  have Hx := Lib.hid hx
  have hG4 : G < 4294967296 := by omega
  clear hR hdm hq hr hml hbP hG hrl hbl how hb hlt
  go_enter Tryz.func122, Tryz.ntmps122
  go_wp2_with fail
  refine (guess_any w (some ⟨g, 0, none⟩) m cs rs hi1 A c bs hi2 hm2 hm (by omega) G HG.out).mono ?_
  rintro e w1 ⟨rfl, hst⟩
  have Hhow1 := Lib.hid (Hhow.out.below hst.1 (Nat.le_refl _))
  have Hb1 := Lib.hid (Hb.out.trans (hst.1.mono Hb.out.size))
  have Ho1 := Lib.hid (hst.2 g)
  clear hst Hhow Hb hi1 hi2
  by_cases hc : G = q
  · subst hc
    have Hf : RowKit.Hid (decide (val rs < G * val bs) = false) := by
      show _ = _
      rw [decide_eq_false_iff_not]; have := Hr.out; omega
    go_wp2_with fail
    refine (lessen_any w0 w1 Hb1.out g m cs rs Hhow1.out A c bs Hx.out G _ rfl hG4 hm false Hf.out).mono ?_
    rintro e w2 ⟨rfl, ⟨zs, tt, hz, hv⟩, hb2, ho2⟩
    have Hz := Lib.hid hz
    have hzt := val_lt (small_take hz.small m)
    rw [List.length_take, hz.len, Nat.min_eq_left (by omega)] at hzt
    have Hv := Lib.hid (less_fits hv hzt HR.out Hr.out HrP.out)
    have Hb2 := Lib.hid hb2
    have Ho2 := Lib.hid (show Others g w w2 from fun k hk => (ho2 k hk).trans (Ho1.out k hk))
    clear hz hzt hv hb2 ho2
    go_wp2
    go_ret
    exact ⟨rfl, ⟨zs, Hz.out, Hv.out⟩, Hb2.out, Ho2.out⟩
  · obtain rfl : G = q + 1 := by omega
    have Hf : RowKit.Hid (decide (val rs < (q + 1) * val bs) = true) := by
      show _ = _
      rw [decide_eq_true_iff, Nat.add_mul, Nat.one_mul]; have := Hr.out; have := Hml.out; omega
    go_wp2_with fail
    refine (lessen_any w0 w1 Hb1.out g m cs rs Hhow1.out A c bs Hx.out (q + 1) _ (by omega) hG4 hm true Hf.out).mono ?_
    rintro e w2 ⟨rfl, ⟨zs, tt, hz, hv⟩, hb2, ho2⟩
    have hv' := hv
    rw [Nat.add_mul, Nat.one_mul] at hv'
    have Hv := Lib.hid hv'
    have Ho2 := Lib.hid (show Others g w w2 from fun k hk => (ho2 k hk).trans (Ho1.out k hk))
    clear hv hv' ho2
    go_wp2_with fail
    refine (raise_any w0 w2 hb2 g m cs zs hz A c bs Hx.out hm).mono ?_
    rintro e w3 ⟨rfl, ⟨ys, cc, hy, hv2⟩, hb3, ho3⟩
    have hyt := val_lt (small_take hy.small m)
    rw [List.length_take, hy.len, Nat.min_eq_left (by omega)] at hyt
    have Hv2 := Lib.hid (less_back Hv.out HR.out Hr.out HrP.out hv2 hyt)
    have Hy := Lib.hid hy
    have Hb3 := Lib.hid hb3
    have Ho3 := Lib.hid (show Others g w w3 from fun k hk => (ho3 k hk).trans (Ho2.out k hk))
    clear hz hv2 hy hb2 hb3 ho3 hyt
    go_wp2
    go_ret
    exact ⟨ret_int (by omega), ⟨ys, Hy.out, Hv2.out⟩, Hb3.out, Ho3.out⟩

end Go.Proofs.YtjpoolddgocbbaaGreatDoor
