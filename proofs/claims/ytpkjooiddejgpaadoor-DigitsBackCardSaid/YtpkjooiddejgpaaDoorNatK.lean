/- The contracts of package nat and of the statements' helpers in one form: a slice reads as limbs that tell a number, within its capacity and a known length; answers are in the shortest limbs. Conditions: at most 10^9 limbs. -/
import Derived.Test.YtpkjooiddejgpaaDoorNatG
import Derived.Maps.AppendAt
namespace Go.Proofs.YtpkjooiddejgpaaDoor
open Go.RowKit Limb
set_option linter.unusedVariables false

/-- The slice at A reads as the limbs xs, which tell a; at most L of them. -/
structure NN (w : World) (A : Option Addr) (n c : Nat) (xs : List Nat) (a L : Nat) : Prop where
  isN : IsN w A n xs
  val : Limb.val xs = a
  cap : n ≤ c
  le : n ≤ L

theorem NN.below {w w' : World} {A : Option Addr} {n c : Nat} {xs : List Nat} {a L : Nat} (h : NN w A n c xs a L) (hb : Below w.heap.size w w') : NN w' A n c xs a L := ⟨h.isN.below hb, h.val, h.cap, h.le⟩

theorem lt_pow {w : World} {A : Option Addr} {n c : Nat} {xs : List Nat} {a L : Nat} (h : NN w A n c xs a L) : a < 4294967296 ^ L := by
  have := val_lt h.isN.small
  rw [h.val, h.isN.len] at this
  exact Nat.lt_of_lt_of_le this (Nat.pow_le_pow_right (by decide) h.le)

theorem blen_NN {w : World} {A : Option Addr} {n c : Nat} {xs : List Nat} {a L : Nat} (h : NN w A n c xs a L) : blen a ≤ 32 * L := by
  have := lt_pow h
  rw [pow32] at this
  exact blen_le this

theorem NN.own {w : World} {B : Nat} {A : Option Addr} {n c a L : Nat} (h : OwnN w B A n c (limbs a)) (hl : a < 4294967296 ^ L) : NN w A n c (limbs a) a L :=
  ⟨h.isN, val_limbs a, h.caps.1, by have := length_limbs_le hl; rw [h.len] at this; exact this⟩

theorem NN.relax {w : World} {A : Option Addr} {n c a L L' : Nat} (h : NN w A n c (limbs a) a L) (hl : a < 4294967296 ^ L') : NN w A n c (limbs a) a L' :=
  ⟨h.isN, h.val, h.cap, by have := length_limbs_le hl; rw [h.isN.len] at this; exact this⟩

theorem limbs_of_NN {w : World} {A : Option Addr} {n c : Nat} {xs : List Nat} {a L : Nat} (h : NN w A n c xs a L) : trim xs = limbs a := by rw [trim_eq_limbs h.isN.small, h.val]

section
variable {w : World} {A A' : Option Addr} {n c n' c' : Nat} {xs ys : List Nat} {a b L L' : Nat}

theorem add_c (hx : NN w A n c xs a L) (hy : NN w A' n' c' ys b L') (K : Nat) (h1 : L < K) (h2 : L' < K) (h3 : K ≤ 1000000000) :
    Calls Tryd.prog 17 #[.slice A n c, .slice A' n' c'] w fun e w' => ∃ A2 n2 c2, e = .returned (.slice A2 n2 c2) ∧ NN w' A2 n2 c2 (limbs (a + b)) (a + b) K ∧ Below w.heap.size w w' := by
  have hlx := lt_pow hx
  have hly := lt_pow hy
  refine (add_any A n c xs A' n' c' ys w hx.isN hy.isN (by have := hx.le; omega) (by have := hy.le; omega) hx.cap hy.cap).mono ?_
  rintro e w' ⟨A2, n2, c2, rfl, how, hb⟩
  rw [hx.val, hy.val] at how
  refine ⟨A2, n2, c2, rfl, NN.own how ?_, hb⟩
  have e1 : 4294967296 ^ L ≤ 4294967296 ^ (K - 1) := Nat.pow_le_pow_right (by decide) (by omega)
  have e2 : 4294967296 ^ L' ≤ 4294967296 ^ (K - 1) := Nat.pow_le_pow_right (by decide) (by omega)
  have e3 : 4294967296 ^ K = 4294967296 ^ (K - 1) * 4294967296 := by rw [← Nat.pow_succ]; congr 1; omega
  omega

theorem cmp_c (hx : NN w A n c xs a L) (hy : NN w A' n' c' ys b L') (h1 : L ≤ 1000000000) (h2 : L' ≤ 1000000000) (v : Int) (hv : cmpI a b = v) :
    Calls Tryd.prog 20 #[.slice A n c, .slice A' n' c'] w fun e w' => e = .returned (.int .i64 v) ∧ Below w.heap.size w w' :=
  cmp_is A n c xs A' n' c' ys w v (by rw [hx.val, hy.val, hv]) hx.isN hy.isN (by have := hx.le; omega) (by have := hy.le; omega) hx.cap hy.cap

theorem bits_c (hx : NN w A n c xs a L) (h1 : L ≤ 1000000000) (v : Int) (hv : ((blen a : Nat) : Int) = v) :
    Calls Tryd.prog 48 #[.slice A n c] w fun e w' => e = .returned (.int .i64 v) ∧ w = w' := by
  have := bits_any A n c xs w hx.isN hx.cap (by have := hx.le; omega)
  rwa [hx.val, hv] at this

theorem trim_c (hx : NN w A n c xs a L) (h1 : L ≤ 1000000000) :
    Calls Tryd.prog 16 #[.slice A n c] w fun e w' => ∃ A2 n2 c2, e = .returned (.slice A2 n2 c2) ∧ NN w' A2 n2 c2 (limbs a) a L ∧ Below w.heap.size w w' := by
  refine (trim_any A n c xs w hx.isN hx.cap (by have := hx.le; omega)).mono ?_
  rintro e w' ⟨A2, n2, c2, rfl, how, hb⟩
  rw [limbs_of_NN hx] at how
  exact ⟨A2, n2, c2, rfl, NN.own how (lt_pow hx), hb⟩

theorem keep_c (hx : NN w A n c xs a L) (hy : NN w A' n' c' ys b L') (h1 : L ≤ 1000000000) (h2 : L' ≤ 1000000000) (v : Bool) (hv : same xs ys = v) :
    Calls Tryd.prog 12 #[.slice A n c, .slice A' n' c'] w fun e w' => e = .returned (.bool v) ∧ Below w.heap.size w w' := by
  have := keepNat_any A n c xs A' n' c' ys w hx.isN hy.isN (by have := hx.le; omega) (by have := hy.le; omega)
  rwa [hv] at this

theorem same_self (xs : List Nat) : same xs xs = true := by simp [same]
theorem same_of (h : xs = ys) : same xs ys = true := by simp [same, h]
theorem same_limbs_ne (h : a ≠ b) : same (limbs a) (limbs b) = false := by
  unfold same; rw [decide_eq_false_iff_not]; exact fun e => h (limbs_inj e)
theorem cmpI_same (h : a = b) : cmpI a b = 0 := by subst h; exact cmpI_eq _
theorem same_limbs (h : a = b) : same (limbs a) (limbs b) = true := by simp [same, h]
end

theorem of_c (v : Nat) (V : Int) (hV : V = v) (h : v < 18446744073709551616) (w : World) :
    Calls Tryd.prog 19 #[.int .u64 V] w fun e w' => ∃ A2 n2 c2, e = .returned (.slice A2 n2 c2) ∧ NN w' A2 n2 c2 (limbs v) v 2 ∧ Below w.heap.size w w' := by
  subst hV
  refine (of_any (v : Int) w (by omega) (by omega)).mono ?_
  rintro e w' ⟨A2, n2, c2, rfl, how, hb⟩
  rw [Int.toNat_natCast] at how
  exact ⟨A2, n2, c2, rfl, NN.own how (by omega), hb⟩

theorem lit_c (w : World) (zs : List Nat) (h : Small zs) (n : Nat) (hn : zs.length = n) : NN (w.alloc (.cells (zs.map limV).toArray 39)) (some ⟨w.heap.size, 0, none⟩) n n zs (Limb.val zs) n := by
  subst hn
  exact ⟨isN_lit w zs h, rfl, Nat.le_refl _, Nat.le_refl _⟩

theorem below_new (w : World) (o : Obj) : Below w.heap.size w (w.alloc o) := (Below.refl _ _).alloc (Nat.le_refl _) o

theorem below_two {w w1 w2 : World} (h : Below w.heap.size w w1) (k : Below w1.heap.size w1 w2) : Below w.heap.size w w2 := h.trans (k.mono h.size)

section
variable {P : Program}
theorem run_append_nothing (w : World) (base : Nat) (t ty e : TypeId) (i : TypeInfo) (size : Nat) (ht : P.underlying t = some (.slice e)) (hi : P.info? e = some i)
    (v : Value) (n : Nat) (xs : List Value) (hown : w.ownsRow base e size v n xs) (c : Nat) : (Builtin.append_ #[t, t] ty #[v, .slice none 0 c]).run P w = .ok v w := by
  rcases hown.2 with ⟨rfl, rfl⟩ | ⟨g, cap, cur, rfl, _, _, hnc, _⟩
  · simp [Builtin.append_, run_underlying ht, sizeOf, typeInfo, hi, Builtin.lenOf, Builtin.firstCells]
  · simp [Builtin.append_, run_underlying ht, sizeOf, typeInfo, hi, Builtin.lenOf, Builtin.firstCells, hnc, storeCells]

/-- append of a list that reads from wherever, nil too, to a row of the call's own: elements of one cell. -/
theorem wpList_append_read {w : World} {ops : Array Oper} {rest : List Oper} {o : Oper} {a : Act} {Q : Exit → Act → World → Prop} (hgd : o.guard = none) (s x : Operand) (t : TypeId)
    (ho : o.op = .call { callee := .builtin .append, args := #[s, x], argTypes := #[t, t] })
    (base : Nat) (e : TypeId) (i : TypeInfo) (z : Value) (bytes : Nat) (ht : P.underlying t = some (.slice e)) (hi : P.info? e = some i) (hz : i.zero = some z)
    (hsize : i.size = 1) (hby : i.bytes = bytes) (hzs : z.cells.size = 1)
    (v : Value) (n : Nat) (xs : List Value) (hs : a.eval s = v) (hown : w.ownsRow base e 1 v n xs)
    (A : Option Addr) (m c : Nat) (news : List Value) (hx : a.eval x = .slice A m c) (hl : news.length = m)
    (hnews : 0 < m → ∃ ad, A = some ad ∧ ∀ j u, news[j]? = some u → w.cell? (ad.add j) = some u) (h1 : ∀ u ∈ news, u.oneCell' = true)
    (h63 : n + m ≤ maxLen) (hbytes : (n + m) * bytes ≤ 140737488355328) (hbase : base ≤ w.heap.size)
    (h : ∀ v' w', w'.ownsRow base e 1 v' (n + m) (xs ++ news) → w.grownBy w' v.ownBlock → wpList P ops Q rest (a.put o.dst v') w') : wpList P ops Q (o :: rest) a w := by
  rcases A with _ | ad
  · have hm : m = 0 := by
      rcases Nat.eq_zero_or_pos m with h0 | h0
      · exact h0
      · obtain ⟨ad, hA, _⟩ := hnews h0; cases hA
    subst hm
    have hnw : news = [] := List.eq_nil_of_length_eq_zero hl
    subst hnw
    refine wpList_plain hgd fun K hK => ?_
    have hrun := run_append_nothing (P := P) w base t o.type e i 1 ht hi v n xs hown c
    unfold Oper.wp execOp
    simp only [ho, resolve, invoke, builtin, Sem.run_bind, Sem.run_pure, Result.andThen_ok, List.map_toArray, List.map_cons, List.map_nil, hs, hx, hrun]
    exact hK _ _ (h v w (by simpa using hown) (World.grownBy.refl w _))
  · refine wpList_append_own w hgd s x t ho base e i z 1 bytes ht hi hz hsize hby hzs (by decide) v n xs hs hown ad m c news hx (by omega) ?_ h1 h63 hbytes hbase (fun v' w' a b _ => h v' w' a b)
    intro j u hu
    have hj : j < news.length := by
      rcases Nat.lt_or_ge j news.length with h0 | h0
      · exact h0
      · rw [List.getElem?_eq_none h0] at hu; cases hu
    obtain ⟨ad', hA, hc⟩ := hnews (by omega)
    injection hA with hA
    subst hA
    exact hc j u hu
end

theorem NN.news {w : World} {A : Option Addr} {n c : Nat} {xs : List Nat} {a L : Nat} (h : NN w A n c xs a L) : 0 < n → ∃ ad, A = some ad ∧ ∀ j u, (xs.map limV)[j]? = some u → w.cell? (ad.add j) = some u := by
  intro hn
  obtain ⟨b, o, rfl, hb, hcell⟩ := h.isN.2.2 hn
  refine ⟨_, rfl, fun j u hu => ?_⟩
  obtain ⟨hj, rfl⟩ := map_u32_get hu
  have e : (⟨b, o, none⟩ : Addr).add j = ⟨b, o + j, none⟩ := by unfold Addr.add; split <;> simp_all
  rw [e]
  exact hcell j (by rw [← h.isN.len]; exact hj)

/-- append of a list of limbs, from wherever, to a row of limbs of the call's own: all premises under one name each, so that a walk leaves them as they are. -/
theorem wpList_append_nat {w : World} {ops : Array Oper} {rest : List Oper} {o : Oper} {a : Act} {Q : Exit → Act → World → Prop} (hgd : o.guard = none) (s x : Operand)
    (ho : o.op = .call { callee := .builtin .append, args := #[s, x], argTypes := #[23, 23] })
    (base : Nat) (v : Value) (n : Nat) (xs : List Nat) (hs : a.eval s = v) (hown : Hid (w.ownsRow base 39 1 v n (xs.map limV)))
    (A : Option Addr) (m c : Nat) (ys : List Nat) (b L : Nat) (hx : a.eval x = .slice A m c) (hy : Hid (NN w A m c ys b L)) (hb : Hid (n ≤ 1000000000 ∧ L ≤ 1000000000 ∧ base ≤ w.heap.size ∧ Small xs))
    (h : ∀ A2 c2 w', Hid (OwnN w' base A2 (n + m) c2 (xs ++ ys)) → Hid (w.grownBy w' v.ownBlock) → wpList Tryd.prog ops Q rest (a.put o.dst (.slice A2 (n + m) c2)) w') : wpList Tryd.prog ops Q (o :: rest) a w := by
  obtain ⟨i0, hi, hz0, hz1, hz2⟩ := info_parts u32_info
  obtain ⟨h1, h2, h3, h4⟩ := hb.out
  have hm := hy.out.le
  refine wpList_append_read hgd s x 23 ho base 39 i0 (.int .u32 0) 4 Tryd.underlying23 hi hz0 hz1 hz2 rfl v n (xs.map limV) hs hown.out A m c (ys.map limV) hx (by simp [hy.out.isN.len]) hy.out.news (oneCell_u32 ys) (by unfold maxLen; omega) (by omega) h3 ?_
  intro v' w' hown' hg
  rw [← List.map_append] at hown'
  obtain ⟨A2, c2, rfl, how⟩ := shape_own hown' (small_append.2 ⟨h4, hy.out.isN.small⟩)
  exact h A2 c2 w' how hg

/-- The empty literal is a row of the call's own. -/
theorem own_lit (w : World) (zs : List Nat) (n : Nat) (hn : zs.length = n) (h : n ≤ 1000000000) : (w.alloc (.cells (zs.map limV).toArray 39)).ownsRow w.heap.size 39 1 (.slice (some ⟨w.heap.size, 0, none⟩) n n) n (zs.map limV) := by
  have := World.ownsRow_lit (e := 39) (size := 1) w (zs.map limV).toArray n (Nat.le_refl _) (by unfold maxLen; omega) (by simp [hn])
  simpa using this

/-- What an append to a literal leaves of what was there. -/
theorem below_lit {w w' : World} {o : Obj} {g : Nat} {n c : Nat} (hg : (w.alloc o).grownBy w' (Value.ownBlock (.slice (some ⟨g, 0, none⟩) n c))) (hb : w.heap.size ≤ g) : Below w.heap.size w w' :=
  (below_new w o).grown hg (by simp) (fun k hk => by
    simp [Value.ownBlock] at hk
    omega)

/-- A copy that shares nothing: append to an empty literal. -/
theorem own_any (A : Option Addr) (n c : Nat) (xs : List Nat) (a L : Nat) (w : World) (hx : NN w A n c xs a L) (h1 : L ≤ 1000000000) :
    Calls Tryd.prog 8 #[.slice A n c] w fun e w' => ∃ A2 n2 c2, e = .returned (.slice A2 n2 c2) ∧ NN w' A2 n2 c2 xs a L ∧ Below w.heap.size w w' := by
  have hle := hx.le
  have Hx := Lib.hid (hx.below (below_new w (.cells #[] 39)))
  have Hn := Lib.hid hx
  clear hx
  have Hown : RowKit.Hid ((w.alloc (.cells #[] 39)).ownsRow w.heap.size 39 1 (.slice (some ⟨w.heap.size, 0, none⟩) 0 0) 0 (([] : List Nat).map limV)) := own_lit w [] 0 rfl (by omega)
  have Hb : RowKit.Hid (0 ≤ 1000000000 ∧ L ≤ 1000000000 ∧ w.heap.size ≤ (w.alloc (.cells #[] 39)).heap.size ∧ Small []) := ⟨by omega, h1, by simp, small_nil⟩
  go_enter Tryd.func8, Tryd.ntmps8
  go_wp2_with (at_builtin; refine wpList_append_nat rfl _ _ rfl w.heap.size _ 0 [] rfl Hown A n c xs a L rfl Hx Hb ?_)
  intro A2 c2 w' how hgrow
  have hb2 := below_lit hgrow.out (Nat.le_refl _)
  have hn : NN w' A2 n c2 xs a L := by
    have h := how.out
    exact ⟨h.isN, Hn.out.val, h.caps.1, Hn.out.le⟩
  clear how hgrow Hown Hb Hx Hn
  go_wp2
  go_ret
  exact ⟨_, _, _, rfl, hn, hb2⟩

end Go.Proofs.YtpkjooiddejgpaaDoor
