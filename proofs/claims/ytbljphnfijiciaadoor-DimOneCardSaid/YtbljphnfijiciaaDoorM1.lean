/- Part 1 of the texts that the statements of this seat lean on: mathematics, and what functions answer, as contracts over memory; each part says its own conditions. -/
import Derived.Test.YtbljphnfijiciaaDoorM0
import Derived.Lib.BitFns
import Derived.Maps.AppendAt
import Derived.Laws.IdiomStrings
import Derived.RegionTactic
import Derived.BigRegion
import Derived.ChangeAlike
import Derived.Laws.Rows
import Derived.Deep.RegionWith
import Derived.Deep.WholeRow
import Derived.Deep.MidRow
/- What package nat's Add answers, as a contract over memory: the sum of the numbers that both lists tell, in its shortest limbs, in new memory. Conditions: both read as limbs, of at most 10^9 of them. -/
namespace Go.Proofs.YtbljphnfijiciaaDoor
open Go.RowKit Limb
set_option linter.unusedVariables false
theorem OwnN.addr {w : World} {B : Nat} {A : Option Addr} {n c : Nat} {zs : List Nat} (h : OwnN w B A n c zs) (hn : 0 < n) : ∃ g, A = some ⟨g, 0, none⟩ ∧ B ≤ g ∧ g < w.heap.size := by
 rcases h.1.2 with ⟨_, h0⟩ | ⟨g, cap, cur, hv, hg, hh, _⟩
 · omega
 · injection hv with hA
   refine ⟨g, hA, hg, ?_⟩
   rcases Nat.lt_or_ge g w.heap.size with hlt | hge
   · exact hlt
   · rw [Array.getElem?_eq_none hge] at hh; cases hh
theorem OwnN.cell {w : World} {B g n c : Nat} {zs : List Nat} (h : OwnN w B (some ⟨g, 0, none⟩) n c zs) {k : Nat} (hk : k < n) : w.cell? ⟨g, k, none⟩ = some (.int .u32 ((lim zs k : Nat) : Int)) := by
 have hl := h.len
 rw [h.1.cellAt k (by omega), List.getElem?_map, List.getElem?_eq_getElem (by omega)]
 simp [limV, lim, List.getD_eq_getElem?_getD, List.getElem?_eq_getElem (show k < zs.length by omega)]
theorem OwnN.set {w : World} {B g n c : Nat} {zs : List Nat} (h : OwnN w B (some ⟨g, 0, none⟩) n c zs) (k : Nat) {v : Nat} (hv : v < 4294967296) :
 OwnN (w.setCell ⟨g, k, none⟩ (.int .u32 ((v : Nat) : Int))) B (some ⟨g, 0, none⟩) n c (zs.set k v) := by
 have := (h.1.stored k (limV v)).1
 rw [← List.map_set] at this
 exact ⟨this, small_set h.2 k v hv⟩
theorem OwnN.below {w w' : World} {B C : Nat} {A : Option Addr} {n c : Nat} {zs : List Nat} (h : OwnN w B A n c zs) (hb : Below C w w') (hC : w.heap.size ≤ C) : OwnN w' B A n c zs := by
 refine ⟨⟨h.1.1, ?_⟩, h.2⟩
 rcases h.1.2 with h2 | ⟨g, cap, cur, hv, hg, hh, r⟩
 · exact .inl h2
 · refine .inr ⟨g, cap, cur, hv, hg, ?_, r⟩
   have hlt : g < w.heap.size := by
    rcases Nat.lt_or_ge g w.heap.size with hlt | hge
    · exact hlt
    · rw [Array.getElem?_eq_none hge] at hh; cases hh
   rw [hb.block g (by omega)]
   exact hh
theorem shape_own {w : World} {B : Nat} {v : Value} {n : Nat} {zs : List Nat} (h : w.ownsRow B 74 1 v n (zs.map limV)) (hs : Small zs) : ∃ A c, v = .slice A n c ∧ OwnN w B A n c zs := by
 rcases h.2 with ⟨rfl, rfl⟩ | ⟨g, cap, cur, rfl, hg, r⟩
 · exact ⟨none, 0, rfl, h, hs⟩
 · exact ⟨_, cap, rfl, h, hs⟩
end Go.Proofs.YtbljphnfijiciaaDoor

/- What package nat's Sub answers, as a contract over memory: the difference, where the first number is not below the second, in its shortest limbs, in new memory; else none. Conditions: both read as limbs, of at most 10^9 of them. -/
namespace Go.Proofs.YtbljphnfijiciaaDoor
open Go.RowKit Limb
set_option linter.unusedVariables false
theorem OwnN.take {w : World} {B : Nat} {A : Option Addr} {n c m : Nat} {zs : List Nat} (h : OwnN w B A n c zs) (hm : m ≤ n) : OwnN w B A m c (zs.take m) := by
 have hl := h.len
 refine ⟨⟨by simp; omega, ?_⟩, small_take h.2 _⟩
 rcases h.1.2 with ⟨hv, h0⟩ | ⟨g, cap, cur, hv, hg, hh, h1, h2, h3, h4⟩
 · injection hv with hA hn hc
   subst hA hc
   left
   exact ⟨by congr 1; omega, by omega⟩
 · injection hv with hA hn hc
   subst hA hc
   refine .inr ⟨g, c, cur, rfl, hg, hh, by omega, h2, h3, ?_⟩
   rw [List.map_take, ← h4, List.take_take]
   congr 1
   omega
end Go.Proofs.YtbljphnfijiciaaDoor

/- What package nat's Bits and Bit answer, as contracts over memory: how many bits the number has that a list tells, and each bit. Conditions: the list reads as limbs, of at most 10^9 of them. -/
namespace Go.Proofs.YtbljphnfijiciaaDoor
open Go.RowKit Limb
set_option linter.unusedVariables false
end Go.Proofs.YtbljphnfijiciaaDoor

/- The contracts of package nat and of the statements' helpers in one form: a slice reads as limbs that tell a number, within its capacity and a known length; answers are in the shortest limbs. Conditions: at most 10^9 limbs. -/
namespace Go.Proofs.YtbljphnfijiciaaDoor
open Go.RowKit Limb
set_option linter.unusedVariables false
structure NN (w : World) (A : Option Addr) (n c : Nat) (xs : List Nat) (a L : Nat) : Prop where
 isN : IsN w A n xs
 val : Limb.val xs = a
 cap : n ≤ c
 le : n ≤ L
theorem NN.below {w w' : World} {A : Option Addr} {n c : Nat} {xs : List Nat} {a L : Nat} (h : NN w A n c xs a L) (hb : Below w.heap.size w w') : NN w' A n c xs a L := ⟨h.isN.below hb, h.val, h.cap, h.le⟩
theorem lt_pow {w : World} {A : Option Addr} {n c : Nat} {xs : List Nat} {a L : Nat} (h : NN w A n c xs a L) : a < 4294967296 ^ L := by
 have := val_lt h.isN.small
 rw [h.val, h.isN.len] at this
 exact Nat.lt_of_lt_of_le this (Nat.pow_le_pow_right (by decide) h.le)
theorem NN.own {w : World} {B : Nat} {A : Option Addr} {n c a L : Nat} (h : OwnN w B A n c (limbs a)) (hl : a < 4294967296 ^ L) : NN w A n c (limbs a) a L :=
 ⟨h.isN, val_limbs a, h.caps.1, by have := length_limbs_le hl; rw [h.len] at this; exact this⟩
theorem limbs_of_NN {w : World} {A : Option Addr} {n c : Nat} {xs : List Nat} {a L : Nat} (h : NN w A n c xs a L) : trim xs = limbs a := by rw [trim_eq_limbs h.isN.small, h.val]
section
variable {w : World} {A A' : Option Addr} {n c n' c' : Nat} {xs ys : List Nat} {a b L L' : Nat}
end
theorem below_new (w : World) (o : Obj) : Below w.heap.size w (w.alloc o) := (Below.refl _ _).alloc (Nat.le_refl _) o
theorem below_two {w w1 w2 : World} (h : Below w.heap.size w w1) (k : Below w1.heap.size w1 w2) : Below w.heap.size w w2 := h.trans (k.mono h.size)
section
variable {P : Program}
theorem run_append_nothing (w : World) (base : Nat) (t ty e : TypeId) (i : TypeInfo) (size : Nat) (ht : P.underlying t = some (.slice e)) (hi : P.info? e = some i)
 (v : Value) (n : Nat) (xs : List Value) (hown : w.ownsRow base e size v n xs) (c : Nat) : (Builtin.append_ #[t, t] ty #[v, .slice none 0 c]).run P w = .ok v w := by
 rcases hown.2 with ⟨rfl, rfl⟩ | ⟨g, cap, cur, rfl, _, _, hnc, _⟩
 · simp [Builtin.append_, run_underlying ht, sizeOf, typeInfo, hi, Builtin.lenOf, Builtin.firstCells]
 · simp [Builtin.append_, run_underlying ht, sizeOf, typeInfo, hi, Builtin.lenOf, Builtin.firstCells, hnc, storeCells]
theorem wpList_append_read {w : World} {ops : Array Oper} {rest : List Oper} {o : Oper} {a : Act} {Q : Exit → Act → World → Prop} (hgd : o.guard = none) (s x : Operand) (t : TypeId)
 (ho : o.op = .call { callee := .builtin .append, args := #[s, x], argTypes := #[t, t] })
 (base : Nat) (e : TypeId) (i : TypeInfo) (z : Value) (bytes : Nat) (ht : P.underlying t = some (.slice e)) (hi : P.info? e = some i) (hz : i.zero = some z)
 (hsize : i.size = 1) (hby : i.bytes = bytes) (hzs : z.cells.size = 1)
 (v : Value) (n : Nat) (xs : List Value) (hs : a.eval s = v) (hown : w.ownsRow base e 1 v n xs)
 (A : Option Addr) (m c : Nat) (news : List Value) (hx : a.eval x = .slice A m c) (hl : news.length = m)
 (hnews : 0 < m → ∃ ad, A = some ad ∧ ∀ j u, news[j]? = some u → w.cell? (ad.add j) = some u) (h1 : ∀ u ∈ news, u.oneCell' = true)
 (h63 : n + m ≤ maxLen) (hbytes : (n + m) * bytes ≤ 140737488355328) (hbase : base ≤ w.heap.size)
 (h : ∀ v' w', w'.ownsRow base e 1 v' (n + m) (xs ++ news) → w.grownBy w' v.ownBlock → wpList P ops Q rest (a.put o.dst v') w') : wpList P ops Q (o :: rest) a w := by
 rcases A with _ | ad
 · have hm : m = 0 := by
    rcases Nat.eq_zero_or_pos m with h0 | h0
    · exact h0
    · obtain ⟨ad, hA, _⟩ := hnews h0; cases hA
   subst hm
   have hnw : news = [] := List.eq_nil_of_length_eq_zero hl
   subst hnw
   refine wpList_plain hgd fun K hK => ?_
   have hrun := run_append_nothing (P := P) w base t o.type e i 1 ht hi v n xs hown c
   unfold Oper.wp execOp
   simp only [ho, resolve, invoke, builtin, Sem.run_bind, Sem.run_pure, Result.andThen_ok, List.map_toArray, List.map_cons, List.map_nil, hs, hx, hrun]
   exact hK _ _ (h v w (by simpa using hown) (World.grownBy.refl w _))
 · refine wpList_append_own w hgd s x t ho base e i z 1 bytes ht hi hz hsize hby hzs (by decide) v n xs hs hown ad m c news hx (by omega) ?_ h1 h63 hbytes hbase (fun v' w' a b _ => h v' w' a b)
   intro j u hu
   have hj : j < news.length := by
    rcases Nat.lt_or_ge j news.length with h0 | h0
    · exact h0
    · rw [List.getElem?_eq_none h0] at hu; cases hu
   obtain ⟨ad', hA, hc⟩ := hnews (by omega)
   injection hA with hA
   subst hA
   exact hc j u hu
end
theorem NN.news {w : World} {A : Option Addr} {n c : Nat} {xs : List Nat} {a L : Nat} (h : NN w A n c xs a L) : 0 < n → ∃ ad, A = some ad ∧ ∀ j u, (xs.map limV)[j]? = some u → w.cell? (ad.add j) = some u := by
 intro hn
 obtain ⟨b, o, rfl, hb, hcell⟩ := h.isN.2.2 hn
 refine ⟨_, rfl, fun j u hu => ?_⟩
 obtain ⟨hj, rfl⟩ := map_u32_get hu
 have e : (⟨b, o, none⟩ : Addr).add j = ⟨b, o + j, none⟩ := by unfold Addr.add; split <;> simp_all
 rw [e]
 exact hcell j (by rw [← h.isN.len]; exact hj)
theorem wpList_append_nat {w : World} {ops : Array Oper} {rest : List Oper} {o : Oper} {a : Act} {Q : Exit → Act → World → Prop} (hgd : o.guard = none) (s x : Operand)
 (ho : o.op = .call { callee := .builtin .append, args := #[s, x], argTypes := #[50, 50] })
 (base : Nat) (v : Value) (n : Nat) (xs : List Nat) (hs : a.eval s = v) (hown : Hid (w.ownsRow base 74 1 v n (xs.map limV)))
 (A : Option Addr) (m c : Nat) (ys : List Nat) (b L : Nat) (hx : a.eval x = .slice A m c) (hy : Hid (NN w A m c ys b L)) (hb : Hid (n ≤ 1000000000 ∧ L ≤ 1000000000 ∧ base ≤ w.heap.size ∧ Small xs))
 (h : ∀ A2 c2 w', Hid (OwnN w' base A2 (n + m) c2 (xs ++ ys)) → Hid (w.grownBy w' v.ownBlock) → wpList Tryd.prog ops Q rest (a.put o.dst (.slice A2 (n + m) c2)) w') : wpList Tryd.prog ops Q (o :: rest) a w := by
 obtain ⟨i0, hi, hz0, hz1, hz2⟩ := info_parts u32_info
 obtain ⟨h1, h2, h3, h4⟩ := hb.out
 have hm := hy.out.le
 refine wpList_append_read hgd s x 50 ho base 74 i0 (.int .u32 0) 4 Tryd.underlying50 hi hz0 hz1 hz2 rfl v n (xs.map limV) hs hown.out A m c (ys.map limV) hx (by simp [hy.out.isN.len]) hy.out.news (oneCell_u32 ys) (by unfold maxLen; omega) (by omega) h3 ?_
 intro v' w' hown' hg
 rw [← List.map_append] at hown'
 obtain ⟨A2, c2, rfl, how⟩ := shape_own hown' (small_append.2 ⟨h4, hy.out.isN.small⟩)
 exact h A2 c2 w' how hg
theorem own_lit (w : World) (zs : List Nat) (n : Nat) (hn : zs.length = n) (h : n ≤ 1000000000) : (w.alloc (.cells (zs.map limV).toArray 74)).ownsRow w.heap.size 74 1 (.slice (some ⟨w.heap.size, 0, none⟩) n n) n (zs.map limV) := by
 have := World.ownsRow_lit (e := 74) (size := 1) w (zs.map limV).toArray n (Nat.le_refl _) (by unfold maxLen; omega) (by simp [hn])
 simpa using this
theorem below_lit {w w' : World} {o : Obj} {g : Nat} {n c : Nat} (hg : (w.alloc o).grownBy w' (Value.ownBlock (.slice (some ⟨g, 0, none⟩) n c))) (hb : w.heap.size ≤ g) : Below w.heap.size w w' :=
 (below_new w o).grown hg (by simp) (fun k hk => by
   simp [Value.ownBlock] at hk
   omega)
end Go.Proofs.YtbljphnfijiciaaDoor

/- What the reference's at, Trim and Add of layer 1 come to, as contracts over memory. Conditions: arguments read as limbs, of at most 10^8 of them. -/
namespace Go.Proofs.YtbljphnfijiciaaDoor
open Go.RowKit Limb
set_option linter.unusedVariables false
set_option maxHeartbeats 400000 in
theorem refTrim_any (A : Option Addr) (n c : Nat) (xs : List Nat) (w : World) (hx : IsN w A n xs) (hc : n ≤ c) (hm : n ≤ 1000000000) :
 Calls Tryd.prog 36 #[.slice A n c] w fun e w' => ∃ A2 n2 c2, e = .returned (.slice A2 n2 c2) ∧ OwnN w' w.heap.size A2 n2 c2 (trim xs) ∧ Below w.heap.size w w' := by
 have hl := hx.len
 go_enter Tryd.func36, Tryd.ntmps36
 go_wp2
 go_loop [3] (fun i => ∃ k : Nat, k ≤ n ∧ i = .int .i64 k ∧ trim (xs.take k) = trim xs) (fun i => (intOf i).toNat)
 case atStart => exact ⟨n, Nat.le_refl _, rfl, by rw [List.take_of_length_le (by omega)]⟩
 case round =>
  obtain ⟨k, hk, rfl, ht⟩ := hrel
  by_cases hgo : 0 < k ∧ lim xs (k - 1) = 0
  · obtain ⟨hk0, hz⟩ := hgo
    obtain ⟨b, o, rfl, hb, hcell⟩ := hx.2.2 (by omega)
    have h1 := hcell (k - 1) (by omega)
    have h2 : trim (xs.take k) = trim (xs.take (k - 1)) := by
     have := trim_take_last (xs := xs) (k := k - 1) (by omega) hz
     rwa [Nat.sub_add_cancel (by omega)] at this
    have H2 := Lib.hid (h2.symm.trans ht)
    clear h2 ht
    rw [hz] at h1
    clear hz
    go_wp2
    go_round
    case rel => exact ⟨k - 1, by omega, by go_num, H2.out⟩
    case measure => simp [intOf]; omega
  · have h2 : trim xs = xs.take k := by
     rw [← ht]
     by_cases hk0 : k = 0
     · subst hk0; rfl
     · have := trim_take_full (xs := xs) (k := k - 1) (by omega) (fun h => hgo ⟨by omega, h⟩)
       rwa [Nat.sub_add_cancel (by omega)] at this
    have H2 := Lib.hid h2
    have hx2 := IsN.take hx hk
    have b0 := below_new w (.cells #[] 74)
    have Hx : RowKit.Hid (NN (w.alloc (.cells #[] 74)) A k c (xs.take k) (val (xs.take k)) 1000000000) := NN.below ⟨hx2, rfl, by omega, by omega⟩ b0
    have Hown : RowKit.Hid ((w.alloc (.cells #[] 74)).ownsRow w.heap.size 74 1 (.slice (some ⟨w.heap.size, 0, none⟩) 0 0) 0 (([] : List Nat).map limV)) := own_lit w [] 0 rfl (by omega)
    have Hb : RowKit.Hid (0 ≤ 1000000000 ∧ 1000000000 ≤ 1000000000 ∧ w.heap.size ≤ (w.alloc (.cells #[] 74)).heap.size ∧ Small []) := ⟨by omega, by omega, by simp, small_nil⟩
    clear hx2 b0
    by_cases hk0 : k = 0
    · subst hk0
      clear h2 ht
      go_wp2_with (at_builtin; refine wpList_append_nat rfl _ _ rfl w.heap.size _ 0 [] rfl Hown A 0 c (xs.take 0) (val (xs.take 0)) 1000000000 rfl Hx Hb ?_)
      intro A2 c2 w' how hgrow
      have hb2 := below_lit hgrow.out (Nat.le_refl _)
      have hn : OwnN w' w.heap.size A2 0 c2 (trim xs) := by
       rw [H2.out]
       exact how.out
      clear how hgrow Hown Hb Hx
      go_wp2
      go_ret
      exact ⟨_, _, _, rfl, hn, hb2⟩
    · obtain ⟨b, o, rfl, hb, hcell⟩ := hx.2.2 (by omega)
      have h1 := hcell (k - 1) (by omega)
      have hlt := lim_lt hx.small (k - 1)
      have hz' : (((lim xs (k - 1) : Nat) : Int) == 0) = false := by simp; exact fun h => hgo ⟨by omega, h⟩
      clear hgo h2 ht
      go_wp2_with (at_builtin; refine wpList_append_nat rfl _ _ rfl w.heap.size _ 0 [] rfl Hown (some ⟨b, o, none⟩) k c (xs.take k) (val (xs.take k)) 1000000000 rfl Hx Hb ?_)
      intro A2 c2 w' how hgrow
      have hb2 := below_lit hgrow.out (Nat.le_refl _)
      have hn : OwnN w' w.heap.size A2 k c2 (trim xs) := by
       rw [H2.out]
       exact how.out
      clear how hgrow Hown Hb Hx
      go_wp2
      go_ret
      exact ⟨_, _, _, rfl, hn, hb2⟩
def RAdd (xs ys zs : List Nat) (k cr : Nat) : Prop := zs.length = k ∧ Small zs ∧ val zs + cr * 4294967296 ^ k = val (xs.take k) + val (ys.take k) ∧ cr ≤ 1
theorem RAdd.start (xs ys : List Nat) : RAdd xs ys [] 0 0 := ⟨rfl, small_nil, by simp [val], by omega⟩
theorem RAdd.step {xs ys zs : List Nat} {k cr : Nat} (h : RAdd xs ys zs k cr) (hx : Small xs) (hy : Small ys) : RAdd xs ys (zs ++ [(lim xs k + lim ys k + cr) % 4294967296]) (k + 1) ((lim xs k + lim ys k + cr) / 4294967296) := by
 obtain ⟨h1, h2, h3, h4⟩ := h
 refine ⟨by simp [h1], small_append.2 ⟨h2, by intro v hv; simp at hv; omega⟩, ?_, ?_⟩
 · rw [val_append, h1, val_take_lim, val_take_lim, Nat.pow_succ]
   have := add_step (z := lim xs k) (y := lim ys k) (c := cr) (P := 4294967296 ^ k) h3
   simp only [val, Nat.mul_zero, Nat.add_zero]
   omega
 · have := lim_lt hx k
   have := lim_lt hy k
   omega
theorem RAdd.done {xs ys zs : List Nat} {k : Nat} (h : RAdd xs ys zs k 0) (hx : xs.length ≤ k) (hy : ys.length ≤ k) : val zs = val xs + val ys := by
 obtain ⟨h1, h2, h3, h4⟩ := h
 rw [List.take_of_length_le hx, List.take_of_length_le hy] at h3
 omega
theorem refTrim_o {A : Option Addr} {n c : Nat} {xs : List Nat} {a L : Nat} {w : World} (hx : NN w A n c xs a L) (h1 : L ≤ 1000000000) :
 Calls Tryd.prog 36 #[.slice A n c] w fun e w' => ∃ A2 n2 c2, e = .returned (.slice A2 n2 c2) ∧ OwnN w' w.heap.size A2 n2 c2 (limbs a) ∧ Below w.heap.size w w' := by
 refine (refTrim_any A n c xs w hx.isN hx.cap (by have := hx.le; omega)).mono ?_
 rintro e w' ⟨A2, n2, c2, rfl, how, hb⟩
 rw [limbs_of_NN hx] at how
 exact ⟨A2, n2, c2, rfl, how, hb⟩
theorem refTrim_c {A : Option Addr} {n c : Nat} {xs : List Nat} {a L : Nat} {w : World} (hx : NN w A n c xs a L) (h1 : L ≤ 1000000000) :
 Calls Tryd.prog 36 #[.slice A n c] w fun e w' => ∃ A2 n2 c2, e = .returned (.slice A2 n2 c2) ∧ NN w' A2 n2 c2 (limbs a) a L ∧ Below w.heap.size w w' := by
 refine (refTrim_any A n c xs w hx.isN hx.cap (by have := hx.le; omega)).mono ?_
 rintro e w' ⟨A2, n2, c2, rfl, how, hb⟩
 rw [limbs_of_NN hx] at how
 exact ⟨A2, n2, c2, rfl, NN.own how (lt_pow hx), hb⟩
theorem OwnN.row {w : World} {B : Nat} {A : Option Addr} {n c : Nat} {zs : List Nat} (h : OwnN w B A n c zs) : w.ownsRow B 74 1 (.slice A n c) n (zs.map limV) := h.1
theorem OwnN.alloc {w : World} {B : Nat} {A : Option Addr} {n c : Nat} {zs : List Nat} (h : OwnN w B A n c zs) (o : Obj) : OwnN (w.alloc o) B A n c zs := ⟨h.1.alloc o, h.2⟩
end Go.Proofs.YtbljphnfijiciaaDoor

/- What package mul's helpers cut and addRow answer, as contracts over memory: the limbs that count; a row of products with carries laid over a part. Conditions: arguments read as limbs, of at most 10^9 of them; a part that is the row itself begins where the row does. -/
namespace Go.Proofs.YtbljphnfijiciaaDoor
open Go.RowKit Limb
set_option linter.unusedVariables false
def Others (g : Nat) (w w' : World) : Prop := ∀ k, k ≠ g → w'.heap[k]? = w.heap[k]?
theorem Others.refl (g : Nat) (w : World) : Others g w w := fun _ _ => rfl
theorem Others.setCell {g : Nat} {a w : World} (h : Others g a w) (k : Nat) (u : Value) : Others g a (w.setCell ⟨g, k, none⟩ u) := fun j hj => (Below.heap_setCell w _ u j hj).trans (h j hj)
theorem cell_setCell_ne {a b : Addr} (w : World) (v : Value) (h : a ≠ b) : (w.setCell a v).cell? b = w.cell? b := World.cell?_setCell_other (w := w) (a := a) (b := b) (v := v) h
theorem OwnN.others {w w' : World} {B g : Nat} {A : Option Addr} {n c : Nat} {zs : List Nat} (h : OwnN w B A n c zs) (ho : Others g w w') (hA : ∀ b o s, A = some ⟨b, o, s⟩ → b ≠ g) : OwnN w' B A n c zs := by
 refine ⟨⟨h.1.1, ?_⟩, h.2⟩
 rcases h.1.2 with h2 | ⟨k, cap, cur, hv, hg, hh, r⟩
 · exact .inl h2
 · refine .inr ⟨k, cap, cur, hv, hg, ?_, r⟩
   rw [ho k ?_]
   · exact hh
   · injection hv with hA2
     exact hA _ _ _ hA2
end Go.Proofs.YtbljphnfijiciaaDoor

/- What package mul's Of answers, as a contract over memory: the product of the numbers that both lists tell, in its shortest limbs, in new memory. Conditions: both read as limbs, of at most 10^8 of them. -/
namespace Go.Proofs.YtbljphnfijiciaaDoor
open Go.RowKit Limb
set_option linter.unusedVariables false
theorem OwnN.tail {w : World} {B g n c : Nat} {zs : List Nat} (h : OwnN w B (some ⟨g, 0, none⟩) n c zs) (k : Nat) (hk : k < n) : IsN w (some ⟨g, k, none⟩) (n - k) (zs.drop k) := by
 have hl := h.len
 obtain ⟨b, o, e, hb, hc⟩ := h.isN.2.2 (by omega)
 injection e with e; injection e with e1 e2; subst e1; subst e2
 refine ⟨by simp; omega, small_drop h.small _, fun _ => ⟨g, k, rfl, hb, fun j hj => ?_⟩⟩
 rw [lim_drop]
 have := hc (k + j) (by omega)
 rwa [Nat.zero_add] at this
end Go.Proofs.YtbljphnfijiciaaDoor

/- What package mul's Small and up answer, as contracts over memory: the product of a number and one limb, a number moved up by bits, in shortest limbs, in new memory. Conditions: the list reads as limbs, of at most 10^8 of them; moves of at most 8192 bits. -/
namespace Go.Proofs.YtbljphnfijiciaaDoor
open Go.RowKit Limb
set_option linter.unusedVariables false
end Go.Proofs.YtbljphnfijiciaaDoor

/- What the document's own answers for layer 1 (package steelyardref01) come to, as contracts over memory: Of, Cmp. Conditions: arguments read as limbs, of at most 10^9 of them. -/
namespace Go.Proofs.YtbljphnfijiciaaDoor
open Go.RowKit Limb
set_option linter.unusedVariables false
set_option maxHeartbeats 400000 in
theorem refOf_any (v : Int) (w : World) (h0 : 0 ≤ v) (h1 : v < 18446744073709551616) :
 Calls Tryd.prog 32 #[.int .u64 v] w fun e w' => ∃ A' n' c', e = .returned (.slice A' n' c') ∧ OwnN w' w.heap.size A' n' c' (limbs v.toNat) ∧ Below w.heap.size w w' := by
 go_enter Tryd.func32, Tryd.ntmps32
 go_wp2_with fail
 obtain ⟨v, rfl⟩ := Int.eq_ofNat_of_zero_le h0
 have e : (#[Value.int IntKind.u32 ((v : Int) % 4294967296), Value.int IntKind.u32 ((v : Int) / 4294967296)] : Array Value) = ([v % 4294967296, v / 4294967296].map limV).toArray := rfl
 have hs : Small [v % 4294967296, v / 4294967296] := by
  intro x hx
  simp at hx
  omega
 have hv : trim [v % 4294967296, v / 4294967296] = limbs ((v : Int)).toNat := by
  rw [trim_eq_limbs hs]
  congr 1
  simp [val]
  omega
 rw [e]
 refine (refTrim_any _ 2 2 [v % 4294967296, v / 4294967296] _ (isN_lit w [v % 4294967296, v / 4294967296] hs) (by omega) (by omega)).mono ?_
 rintro e w1 ⟨A', n', c', rfl, hown, hbel⟩
 rw [hv] at hown
 have hb : Below w.heap.size w w1 := ((Below.refl _ _).alloc (Nat.le_refl _) _).trans (hbel.mono (by simp))
 have hown' : OwnN w1 w.heap.size A' n' c' (limbs ((v : Int)).toNat) := hown.mono (by simp)
 clear hown hbel hv
 go_wp2
 go_ret
 exact ⟨_, _, _, rfl, hown', hb⟩
end Go.Proofs.YtbljphnfijiciaaDoor

/- What the document's own answers for layer 1 (package steelyardref01) come to, as contracts over memory: Bit, Bits, Sub. Conditions: arguments read as limbs, of at most 10^8 of them; a difference is asked of a number that is not below. -/
namespace Go.Proofs.YtbljphnfijiciaaDoor
open Go.RowKit Limb
set_option linter.unusedVariables false
def RSub (xs ys zs : List Nat) (k br : Nat) : Prop := zs.length = k ∧ Small zs ∧ val zs + val (ys.take k) = val (xs.take k) + br * 4294967296 ^ k ∧ br ≤ 1
theorem RSub.start (xs ys : List Nat) : RSub xs ys [] 0 0 := ⟨rfl, small_nil, by simp [val], by omega⟩
theorem sub_step {S X Y z y c P lo hi : Nat} (h : S + Y = X + c * P) (e : lo + y + c = z + hi * 4294967296) : S + P * lo + (Y + P * y) = X + P * z + hi * (P * 4294967296) := by
 have h1 := congrArg (P * ·) e
 simp only [Nat.mul_add] at h1
 rw [Nat.mul_left_comm hi P, Nat.mul_comm c P] at *
 omega
theorem RSub.step0 {xs ys zs : List Nat} {k br lo hi : Nat} (h : RSub xs ys zs k br) (hs : lo < 4294967296) (hi1 : hi ≤ 1) (e : lo + lim ys k + br = lim xs k + hi * 4294967296) : RSub xs ys (zs ++ [lo]) (k + 1) hi := by
 obtain ⟨h1, h2, h3, h4⟩ := h
 have hv : val (zs ++ [lo]) = val zs + 4294967296 ^ k * lo := by rw [val_append, h1]; simp [val]
 have e2 : 4294967296 ^ (k + 1) = 4294967296 ^ k * 4294967296 := Nat.pow_succ ..
 refine ⟨by simp [h1], small_append.2 ⟨h2, small_cons.2 ⟨hs, small_nil⟩⟩, ?_, hi1⟩
 rw [hv, val_take_lim, val_take_lim, e2]
 exact sub_step h3 e
theorem RSub.step {xs ys zs : List Nat} {k br : Nat} (h : RSub xs ys zs k br) (hx : Small xs) (hy : Small ys) : RSub xs ys (zs ++ [diffLo (lim xs k) (lim ys k) br]) (k + 1) (diffHi (lim xs k) (lim ys k) br) :=
 h.step0 (diffLo_lt _ _ _) (diffHi_le _ _ _) (diff_parts (lim_lt hx k) (lim_lt hy k) h.2.2.2)
theorem RSub.done {xs ys zs : List Nat} {k br : Nat} (h : RSub xs ys zs k br) (hk : xs.length = k) (hle : val ys ≤ val xs) (hx : Small xs) : val zs = val xs - val ys := by
 obtain ⟨h1, h2, h3, h4⟩ := h
 have hz := val_lt h2
 rw [h1] at hz
 have hxl := val_lt hx
 rw [hk] at hxl
 rw [List.take_of_length_le (l := xs) (by omega)] at h3
 have hy : val (ys.take k) = val ys := by
  by_cases hky : ys.length ≤ k
  · rw [List.take_of_length_le hky]
  · have e := val_split ys k (by omega)
    have h0 : val (ys.drop k) = 0 := by
     refine Classical.byContradiction fun hn => ?_
     have : 4294967296 ^ k * 1 ≤ 4294967296 ^ k * val (ys.drop k) := Nat.mul_le_mul_left _ (by omega)
     omega
    rw [h0] at e
    omega
 rw [hy] at h3
 rcases (show br = 0 ∨ br = 1 by omega) with rfl | rfl
 · omega
 · omega
theorem refOf_c (v : Nat) (V : Int) (hV : V = v) (h : v < 18446744073709551616) (w : World) :
 Calls Tryd.prog 32 #[.int .u64 V] w fun e w' => ∃ A2 n2 c2, e = .returned (.slice A2 n2 c2) ∧ NN w' A2 n2 c2 (limbs v) v 2 ∧ Below w.heap.size w w' := by
 subst hV
 refine (refOf_any (v : Int) w (by omega) (by omega)).mono ?_
 rintro e w' ⟨A2, n2, c2, rfl, how, hb⟩
 rw [Int.toNat_natCast] at how
 exact ⟨A2, n2, c2, rfl, NN.own how (by omega), hb⟩
end Go.Proofs.YtbljphnfijiciaaDoor

/- Rows of bytes that the call itself made: what they read as, stores, growth by append, the text of one. No condition. -/
namespace Go.Proofs.YtbljphnfijiciaaDoor
open Go.RowKit Limb
set_option linter.unusedVariables false
theorem u8_info : (Tryd.prog.info? 5).map (fun i => (i.zero, i.size, i.bytes)) = some (some (.int .u8 0), 1, 1) := by kernel_rfl
def byV (x : Nat) : Value := .int .u8 (x : Int)
theorem oneCell_u8 (xs : List Nat) : ∀ v ∈ xs.map byV, v.oneCell' = true := by
 intro v hv
 obtain ⟨x, _, rfl⟩ := List.mem_map.1 hv
 rfl
theorem map_u8_get {xs : List Nat} {j : Nat} {v : Value} (h : (xs.map byV)[j]? = some v) : j < xs.length ∧ v = byV (lim xs j) := by
 rw [List.getElem?_map] at h
 by_cases hj : j < xs.length
 · rw [List.getElem?_eq_getElem hj] at h
   simp at h
   exact ⟨hj, by rw [← h]; simp [lim, List.getD_eq_getElem?_getD, List.getElem?_eq_getElem hj]⟩
 · rw [List.getElem?_eq_none (by omega)] at h; simp at h
def IsB (w : World) (A : Option Addr) (n : Nat) (xs : List Nat) : Prop :=
 xs.length = n ∧ Bytes xs ∧ (0 < n → ∃ b o, A = some ⟨b, o, none⟩ ∧ b < w.heap.size ∧ ∀ j, j < n → w.cell? ⟨b, o + j, none⟩ = some (.int .u8 ((lim xs j : Nat) : Int)))
theorem IsB.below {w w' : World} {A : Option Addr} {n : Nat} {xs : List Nat} (h : IsB w A n xs) (hb : Below w.heap.size w w') : IsB w' A n xs := by
 refine ⟨h.1, h.2.1, fun hn => ?_⟩
 obtain ⟨b, o, e, hlt, hc⟩ := h.2.2 hn
 exact ⟨b, o, e, Nat.lt_of_lt_of_le hlt hb.size, fun j hj => (hb.cell (p := ⟨b, o + j, none⟩) hlt).trans (hc j hj)⟩
def OwnB (w : World) (B : Nat) (A : Option Addr) (n c : Nat) (zs : List Nat) : Prop :=
 w.ownsRow B 5 1 (.slice A n c) n (zs.map byV) ∧ Bytes zs
section
variable {w w' : World} {B B' C : Nat} {A : Option Addr} {n c : Nat} {zs : List Nat}
theorem OwnB.len (h : OwnB w B A n c zs) : zs.length = n := by
 have := h.1.1; simpa using this
theorem OwnB.bytes (h : OwnB w B A n c zs) : Bytes zs := h.2
theorem OwnB.caps (h : OwnB w B A n c zs) : n ≤ c ∧ c ≤ maxLen := by
 rcases h.1.2 with ⟨hv, h0⟩ | ⟨g, cap, cur, hv, hg, hh, h1, h2, _⟩
 · injection hv with _ _ hc; subst hc; subst h0; exact ⟨Nat.le_refl _, Nat.zero_le _⟩
 · injection hv with _ _ hc; subst hc; exact ⟨h1, h2⟩
theorem OwnB.nil (w : World) (B : Nat) : OwnB w B none 0 0 [] := ⟨World.ownsRow_nil _ _ _ _, bytes_nil⟩
theorem OwnB.addr (h : OwnB w B A n c zs) (hn : 0 < n) : ∃ g, A = some ⟨g, 0, none⟩ ∧ B ≤ g ∧ g < w.heap.size := by
 rcases h.1.2 with ⟨_, h0⟩ | ⟨g, cap, cur, hv, hg, hh, _⟩
 · omega
 · injection hv with hA
   refine ⟨g, hA, hg, ?_⟩
   rcases Nat.lt_or_ge g w.heap.size with hlt | hge
   · exact hlt
   · rw [Array.getElem?_eq_none hge] at hh; cases hh
theorem OwnB.cell {g : Nat} (h : OwnB w B (some ⟨g, 0, none⟩) n c zs) {k : Nat} (hk : k < n) : w.cell? ⟨g, k, none⟩ = some (.int .u8 ((lim zs k : Nat) : Int)) := by
 have hl := h.len
 rw [h.1.cellAt k (by omega), List.getElem?_map, List.getElem?_eq_getElem (by omega)]
 simp [byV, lim, List.getD_eq_getElem?_getD, List.getElem?_eq_getElem (show k < zs.length by omega)]
theorem OwnB.set {g : Nat} (h : OwnB w B (some ⟨g, 0, none⟩) n c zs) (k : Nat) {v : Nat} (hv : v < 256) :
 OwnB (w.setCell ⟨g, k, none⟩ (.int .u8 ((v : Nat) : Int))) B (some ⟨g, 0, none⟩) n c (zs.set k v) := by
 have := (h.1.stored k (byV v)).1
 rw [← List.map_set] at this
 exact ⟨this, bytes_set h.2 k v hv⟩
theorem OwnB.below (h : OwnB w B A n c zs) (hb : Below C w w') (hC : w.heap.size ≤ C) : OwnB w' B A n c zs := by
 refine ⟨⟨h.1.1, ?_⟩, h.2⟩
 rcases h.1.2 with h2 | ⟨g, cap, cur, hv, hg, hh, r⟩
 · exact .inl h2
 · refine .inr ⟨g, cap, cur, hv, hg, ?_, r⟩
   have hlt : g < w.heap.size := by
    rcases Nat.lt_or_ge g w.heap.size with hlt | hge
    · exact hlt
    · rw [Array.getElem?_eq_none hge] at hh; cases hh
   rw [hb.block g (by omega)]
   exact hh
theorem OwnB.isB (h : OwnB w B A n c zs) : IsB w A n zs := by
 refine ⟨h.len, h.2, fun hn => ?_⟩
 obtain ⟨g, rfl, hg, hl⟩ := h.addr hn
 exact ⟨g, 0, rfl, hl, fun j hj => by rw [Nat.zero_add]; exact h.cell hj⟩
theorem OwnB.mono (h : OwnB w B A n c zs) (hB : B' ≤ B) : OwnB w B' A n c zs := by
 refine ⟨⟨h.1.1, ?_⟩, h.2⟩
 rcases h.1.2 with h2 | ⟨g, cap, cur, hv, hg, r⟩
 · exact .inl h2
 · exact .inr ⟨g, cap, cur, hv, Nat.le_trans hB hg, r⟩
theorem OwnB.row (h : OwnB w B A n c zs) : w.ownsRow B 5 1 (.slice A n c) n (zs.map byV) := h.1
theorem OwnB.alloc (h : OwnB w B A n c zs) (o : Obj) : OwnB (w.alloc o) B A n c zs := ⟨h.1.alloc o, h.2⟩
end
theorem shape_ownB {w : World} {B : Nat} {v : Value} {n : Nat} {zs : List Nat} (h : w.ownsRow B 5 1 v n (zs.map byV)) (hs : Bytes zs) : ∃ A c, v = .slice A n c ∧ OwnB w B A n c zs := by
 rcases h.2 with ⟨rfl, rfl⟩ | ⟨g, cap, cur, rfl, hg, r⟩
 · exact ⟨none, 0, rfl, h, hs⟩
 · exact ⟨_, cap, rfl, h, hs⟩
theorem below_grownB {w0 w w' : World} {A : Option Addr} {n c : Nat} {zs : List Nat} {o : Obj} (hb : Below w0.heap.size w0 w) (how : OwnB w w0.heap.size A n c zs) (hg : (w.alloc o).grownBy w' (Value.ownBlock (.slice A n c))) : Below w0.heap.size w0 w' :=
 (hb.alloc hb.size o).grown hg (by have := hb.size; simp; omega) (fun k hk => (how.1.lt k hk).1)
theorem wpList_append_byte {w : World} {ops : Array Oper} {rest : List Oper} {o : Oper} {a : Act} {Q : Exit → Act → World → Prop} (hgd : o.guard = none) (s x : Operand)
 (ho : o.op = .call { callee := .builtin .append, args := #[s, x], argTypes := #[55, 55] })
 (base : Nat) (v : Value) (n : Nat) (xs : List Nat) (hs : a.eval s = v) (hown : Hid (w.ownsRow base 5 1 v n (xs.map byV)))
 (g : Nat) (hx : a.eval x = .slice (some ⟨g, 0, none⟩) 1 1) (y : Nat) (hy : Hid (w.cell? ⟨g, 0, none⟩ = some (.int .u8 (y : Int)) ∧ y < 256)) (hb : Hid (n ≤ 1000000000 ∧ base ≤ w.heap.size ∧ Bytes xs))
 (h : ∀ A2 c2 w', Hid (OwnB w' base A2 (n + 1) c2 (xs ++ [y])) → Hid (w.grownBy w' v.ownBlock) → wpList Tryd.prog ops Q rest (a.put o.dst (.slice A2 (n + 1) c2)) w') : wpList Tryd.prog ops Q (o :: rest) a w := by
 obtain ⟨i0, hi, hz0, hz1, hz2⟩ := info_parts u8_info
 obtain ⟨h1, h3, h4⟩ := hb.out
 refine wpList_append_read hgd s x 55 ho base 5 i0 (.int .u8 0) 1 Tryd.underlying55 hi hz0 hz1 hz2 rfl v n (xs.map byV) hs hown.out (some ⟨g, 0, none⟩) 1 1 ([y].map byV) hx rfl ?_ (oneCell_u8 [y]) (by unfold maxLen; omega) (by omega) h3 ?_
 · intro _
   refine ⟨_, rfl, fun j u hu => ?_⟩
   obtain ⟨hj, rfl⟩ := map_u8_get hu
   obtain rfl : j = 0 := by simpa using hj
   have e : (⟨g, 0, none⟩ : Addr).add 0 = ⟨g, 0, none⟩ := by unfold Addr.add; split <;> simp_all
   rw [e]
   exact hy.out.1
 · intro v' w' hown' hg
   rw [← List.map_append] at hown'
   obtain ⟨A2, c2, rfl, how⟩ := shape_ownB hown' (bytes_append.2 ⟨h4, bytes_cons.2 ⟨hy.out.2, bytes_nil⟩⟩)
   exact h A2 c2 w' how hg
theorem run_text {w : World} {A : Option Addr} {n c : Nat} {xs : List Nat} (h : IsB w A n xs) (hn : 0 < n) : (convert 55 9 (.slice A n c)).run Tryd.prog w = .ok (.string (strOf xs)) w := by
 obtain ⟨b, o, rfl, _, hc⟩ := h.2.2 hn
 have hl : (xs.map UInt8.ofNat).length = n := by rw [List.length_map, h.1]
 have hr := run_convert_bytes_back (P := Tryd.prog) w 55 9 5 ⟨b, o, none⟩ c (xs.map UInt8.ofNat) Tryd.underlying55 Tryd.underlying5 Tryd.underlying9 (fun j hj => ?_)
 · rw [hl] at hr
   exact hr
 · have hj2 : j < xs.length := by simpa using hj
   have e : (⟨b, o, none⟩ : Addr).add j = ⟨b, o + j, none⟩ := by unfold Addr.add; split <;> simp_all
   rw [e, hc j (by rw [← h.1]; exact hj2), List.getElem_map, UInt8.toNat_ofNat']
   have e2 : lim xs j = xs[j] := by simp [lim, List.getD_eq_getElem?_getD, List.getElem?_eq_getElem hj2]
   have e3 := h.2.1 xs[j] (List.getElem_mem hj2)
   rw [e2, Nat.mod_eq_of_lt e3]
end Go.Proofs.YtbljphnfijiciaaDoor

/- What package mul's down answers, as a contract over memory: a number moved down by bits, in shortest limbs, in new memory. Conditions: the list reads as limbs, of at most 10^8 of them; moves of at most 8192 bits. -/
namespace Go.Proofs.YtbljphnfijiciaaDoor.Limb
def downLimb (ys : List Nat) (r j : Nat) : Nat := lim ys j / 2 ^ r ||| lim ys (j + 1) * 2 ^ (32 - r) % 4294967296
def DownInv (ys zs : List Nat) (r k : Nat) : Prop := zs.length = ys.length ∧ (∀ j, j < k → lim zs j = downLimb ys r j) ∧ ∀ j, k ≤ j → lim zs j = lim ys j
theorem DownInv.start (ys : List Nat) (r : Nat) : DownInv ys ys r 0 := ⟨rfl, fun j hj => by omega, fun _ _ => rfl⟩
theorem DownInv.step {ys zs : List Nat} {r k v : Nat} (h : DownInv ys zs r k) (hk : k < ys.length) (hv : v = downLimb ys r k) : DownInv ys (zs.set k v) r (k + 1) := by
 obtain ⟨h1, h2, h3⟩ := h
 refine ⟨by simpa using h1, fun j hj => ?_, fun j hj => by rw [lim_set_ne (by omega)]; exact h3 j (by omega)⟩
 by_cases e : j = k
 · subst e; rw [lim_set_self (by omega), hv]
 · rw [lim_set_ne (fun h => e h.symm)]; exact h2 j (by omega)
theorem set_set {zs : List Nat} {k u v : Nat} : (zs.set k u).set k v = zs.set k v := by simp
end Go.Proofs.YtbljphnfijiciaaDoor.Limb
namespace Go.Proofs.YtbljphnfijiciaaDoor
open Go.RowKit Limb
set_option linter.unusedVariables false
end Go.Proofs.YtbljphnfijiciaaDoor

/- What math/bits' Len64 and Len answer: how many bits a word has; and package mul's Shift. Conditions: none for Len; for Shift the list reads as limbs, of at most 9*10^7 of them. -/
namespace Go.Proofs.YtbljphnfijiciaaDoor
open Go.RowKit Limb
set_option linter.unusedVariables false
end Go.Proofs.YtbljphnfijiciaaDoor

/- Package mul's contracts in one form (numbers, lengths), and what Pow answers: the power that is made bit by bit from the highest one, or nothing where a step has too many limbs. Conditions: lists read as limbs, of at most 10^7 of them. -/
namespace Go.Proofs.YtbljphnfijiciaaDoor.Limb
end Go.Proofs.YtbljphnfijiciaaDoor.Limb
namespace Go.Proofs.YtbljphnfijiciaaDoor
open Go.RowKit Limb
set_option linter.unusedVariables false
section
variable {w : World} {A A' : Option Addr} {n c n' c' : Nat} {xs ys : List Nat} {a b L L' : Nat}
end
theorem NN.len {w : World} {A : Option Addr} {n c : Nat} {xs : List Nat} {a L : Nat} (h : NN w A n c xs a L) : n = xs.length := h.isN.len.symm
end Go.Proofs.YtbljphnfijiciaaDoor

/- What the reference's Small and Up of layer 2 come to, as contracts over memory: a number times one limb, moved by bits, in shortest limbs. Conditions: the list reads as limbs, of at most 10^7 of them; moves of at most 10^7 bits. -/
namespace Go.Proofs.YtbljphnfijiciaaDoor.Limb
def RSmall (xs zs : List Nat) (v k c : Nat) : Prop := zs.length = k ∧ Small zs ∧ val zs + c * 4294967296 ^ k = val (xs.take k) * v ∧ c < 4294967296
theorem RSmall.start (xs : List Nat) (v : Nat) : RSmall xs [] v 0 0 := ⟨rfl, small_nil, by simp [val], by omega⟩
theorem RSmall.step {xs zs : List Nat} {v k c lo hi : Nat} (h : RSmall xs zs v k c) (hx : Small xs) (hv : v < 4294967296) (hlo : lo < 4294967296) (e : lo + hi * 4294967296 = c + lim xs k * v) : RSmall xs (zs ++ [lo]) v (k + 1) hi := by
 obtain ⟨h1, h2, h3, h4⟩ := h
 refine ⟨by simp [h1], small_append.2 ⟨h2, by intro x hx; simp at hx; omega⟩, ?_, ?_⟩
 · rw [val_append, h1, val_take_lim, Nat.pow_succ]
   have := row_step (S := val zs) (Q := 0) (X := val (xs.take k)) (x := lim xs k) (v := v) (p := 0) (cr := c) (P := 4294967296 ^ k) (lo := lo) (hi := hi) (by rw [h3, Nat.zero_add, Nat.mul_comm]) (by rw [e, Nat.add_zero])
   simp only [val, Nat.mul_zero, Nat.add_zero, Nat.zero_add] at this ⊢
   rw [this, Nat.mul_comm]
 · have := limb_prod (lim_lt hx k) hv
   omega
theorem RSmall.done {xs zs : List Nat} {v k c : Nat} (h : RSmall xs zs v k c) (hx : xs.length = k) : Small (zs ++ [c]) ∧ val (zs ++ [c]) = val xs * v := by
 obtain ⟨h1, h2, h3, h4⟩ := h
 refine ⟨small_append.2 ⟨h2, by intro x hx; simp at hx; omega⟩, ?_⟩
 rw [List.take_of_length_le (by omega)] at h3
 rw [val_append, h1, ← h3, Nat.mul_comm c]
 simp [val]
def RUp (xs zs : List Nat) (q r k c : Nat) : Prop := zs.length = q + k ∧ Small zs ∧ val zs + c * 4294967296 ^ (q + k) = 4294967296 ^ q * val (xs.take k) * 2 ^ r ∧ c < 2 ^ r
theorem RUp.start (xs : List Nat) (q r : Nat) : RUp xs (List.replicate q 0) q r 0 0 := by
 refine ⟨by simp, small_zeros q, ?_, Nat.two_pow_pos _⟩
 have := val_zeros q []
 rw [List.append_nil] at this
 rw [this]; simp [val]
theorem RUp.step {xs zs : List Nat} {q r k c lo hi : Nat} (h : RUp xs zs q r k c) (hx : Small xs) (hlo : lo < 4294967296) (e : lo + hi * 4294967296 = c + lim xs k * 2 ^ r) : RUp xs (zs ++ [lo]) q r (k + 1) hi := by
 obtain ⟨h1, h2, h3, h4⟩ := h
 refine ⟨by simp [h1]; omega, small_append.2 ⟨h2, by intro x hx; simp at hx; omega⟩, ?_, ?_⟩
 · rw [val_append, h1, val_take_lim, ← Nat.add_assoc, Nat.pow_succ]
   have := row_step (S := val zs) (Q := 0) (X := 4294967296 ^ q * val (xs.take k)) (x := lim xs k) (v := 2 ^ r) (p := 0) (cr := c) (P := 4294967296 ^ (q + k)) (lo := lo) (hi := hi) (by rw [h3, Nat.zero_add, Nat.mul_comm]) (by rw [e, Nat.add_zero])
   simp only [val, Nat.mul_zero, Nat.add_zero, Nat.zero_add] at this ⊢
   have e2 : 4294967296 ^ (q + k) * lim xs k = 4294967296 ^ q * (4294967296 ^ k * lim xs k) := by rw [Nat.pow_add, Nat.mul_assoc]
   rw [this, e2, ← Nat.mul_add, Nat.mul_comm]
 · have h5 : lim xs k * 2 ^ r ≤ 4294967295 * 2 ^ r := Nat.mul_le_mul_right _ (by have := lim_lt hx k; omega)
   omega
theorem RUp.done {xs zs : List Nat} {q r k c : Nat} (h : RUp xs zs q r k c) (hx : xs.length = k) (hr : r < 32) : Small (zs ++ [c]) ∧ val (zs ++ [c]) = 4294967296 ^ q * val xs * 2 ^ r := by
 obtain ⟨h1, h2, h3, h4⟩ := h
 have hc : c < 4294967296 := by
  have : 2 ^ r < 2 ^ 32 := Nat.pow_lt_pow_right (by decide) hr
  omega
 refine ⟨small_append.2 ⟨h2, by intro x hx; simp at hx; omega⟩, ?_⟩
 rw [List.take_of_length_le (by omega)] at h3
 rw [val_append, h1, ← h3, Nat.mul_comm c]
 simp [val]
theorem RUp.or {c x r : Nat} (h : c < 2 ^ r) : c ||| x * 2 ^ r = c + x * 2 ^ r := by
 rw [Nat.or_comm, Nat.mul_comm, ← Nat.two_pow_add_eq_or_of_lt h]
 omega
end Go.Proofs.YtbljphnfijiciaaDoor.Limb
namespace Go.Proofs.YtbljphnfijiciaaDoor
open Go.RowKit Limb
set_option linter.unusedVariables false
end Go.Proofs.YtbljphnfijiciaaDoor

/- What the reference's Down and Shift of layer 2 come to, as contracts over memory: a number moved by bits, in shortest limbs. Conditions: the list reads as limbs, of at most 9*10^7 of them. -/
namespace Go.Proofs.YtbljphnfijiciaaDoor
open Go.RowKit Limb
set_option linter.unusedVariables false
def RDown (ys zs : List Nat) (r k : Nat) : Prop := zs.length = k ∧ ∀ j, j < k → lim zs j = downLimb ys r j
theorem RDown.start (ys : List Nat) (r : Nat) : RDown ys [] r 0 := ⟨rfl, fun j hj => by omega⟩
theorem lim_append_lt {zs us : List Nat} {j : Nat} (h : j < zs.length) : lim (zs ++ us) j = lim zs j := by
 simp [lim, List.getD_eq_getElem?_getD, List.getElem?_append_left h]
theorem lim_append_at {zs : List Nat} {u : Nat} : lim (zs ++ [u]) zs.length = u := by
 simp [lim, List.getD_eq_getElem?_getD]
theorem RDown.step {ys zs : List Nat} {r k v : Nat} (h : RDown ys zs r k) (hv : v = downLimb ys r k) : RDown ys (zs ++ [v]) r (k + 1) := by
 obtain ⟨h1, h2⟩ := h
 refine ⟨by simp [h1], fun j hj => ?_⟩
 by_cases e : j = k
 · subst e; rw [← h1, lim_append_at, h1, hv]
 · rw [lim_append_lt (by omega)]; exact h2 j (by omega)
end Go.Proofs.YtbljphnfijiciaaDoor

/- What the reference's Of of layer 2 comes to, as a contract over memory: the product, in shortest limbs. Conditions: both lists read as limbs, of at most 10^6 of them. -/
namespace Go.Proofs.YtbljphnfijiciaaDoor
open Go.RowKit Limb
set_option linter.unusedVariables false
end Go.Proofs.YtbljphnfijiciaaDoor

/- What the reference's Rem of layer 3 comes to, as a contract over memory: quotient and what is left, by bits moved and taken away. Conditions: both lists read as limbs, of at most 10^5 of them. -/
namespace Go.Proofs.YtbljphnfijiciaaDoor.Limb
theorem val_set_add {zs : List Nat} {q d : Nat} (hq : q < zs.length) : val (zs.set q (lim zs q + d)) = val zs + 4294967296 ^ q * d := by
 rw [val_split (zs.set q (lim zs q + d)) (q + 1) (by simp; omega), drop_succ_set, val_take_set hq, val_split zs (q + 1) (by omega), val_take_lim, Nat.mul_add]
 omega
theorem low_bit {V i : Nat} (h : V % 2 ^ (i + 1) = 0) : (V / 4294967296 ^ (i / 32) % 4294967296) ||| 2 ^ (i % 32) = V / 4294967296 ^ (i / 32) % 4294967296 + 2 ^ (i % 32) := by
 obtain ⟨c, rfl⟩ := Nat.dvd_of_mod_eq_zero h
 have e1 : 2 ^ (i + 1) = 2 ^ (32 * (i / 32)) * 2 ^ (i % 32 + 1) := by rw [← Nat.pow_add]; congr 1; omega
 have hk : i % 32 < 32 := Nat.mod_lt _ (by decide)
 have e2 : (4294967296 : Nat) = 2 ^ (i % 32 + 1) * 2 ^ (31 - i % 32) := by rw [← Nat.pow_add, show i % 32 + 1 + (31 - i % 32) = 32 by omega]
 have e3 : 2 ^ (i + 1) * c / 4294967296 ^ (i / 32) = 2 ^ (i % 32 + 1) * c := by
  rw [pow32, e1, Nat.mul_assoc, Nat.mul_div_cancel_left _ (Nat.two_pow_pos _)]
 have e4 : 2 ^ (i % 32 + 1) * c % 4294967296 = 2 ^ (i % 32 + 1) * (c % 2 ^ (31 - i % 32)) := by
  rw [show 2 ^ (i % 32 + 1) * c % 4294967296 = 2 ^ (i % 32 + 1) * c % (2 ^ (i % 32 + 1) * 2 ^ (31 - i % 32)) by rw [← e2], Nat.mul_mod_mul_left]
 rw [e3, e4]
 exact (Nat.two_pow_add_eq_or_of_lt (Nat.pow_lt_pow_right (by decide) (Nat.lt_succ_self _)) _).symm
def QInv (a b : Nat) (zs : List Nat) (left j : Nat) : Prop := a = left + b * val zs ∧ left < b * 2 ^ j ∧ val zs % 2 ^ j = 0
theorem QInv.start {a b n : Nat} (k : Nat) (hb : b ≠ 0) (h : blen a ≤ blen b + n) : QInv a b (List.replicate k 0) a (n + 1) := by
 have e0 : val (List.replicate k 0) = 0 := val_zero fun j => by simp [lim, List.getD_eq_getElem?_getD, List.getElem?_replicate]; split <;> rfl
 refine ⟨by rw [e0]; rfl, ?_, by rw [e0, Nat.zero_mod]⟩
 obtain ⟨h1, h2, h3⟩ := blen_spec hb
 have h4 : a < 2 ^ (blen b + n) := Nat.lt_of_lt_of_le (blen_lt a) (Nat.pow_le_pow_right (by decide) h)
 have h5 : 2 ^ (blen b + n) = 2 ^ (blen b - 1) * 2 ^ (n + 1) := by rw [← Nat.pow_add]; congr 1; omega
 rw [h5] at h4
 exact Nat.lt_of_lt_of_le h4 (Nat.mul_le_mul_right _ h1)
theorem mod_low {V j : Nat} (h : V % 2 ^ (j + 1) = 0) : V % 2 ^ j = 0 :=
 Nat.mod_eq_zero_of_dvd (Nat.dvd_trans ⟨2, by rw [Nat.pow_succ]⟩ (Nat.dvd_of_mod_eq_zero h))
theorem QInv.yes {a b left j : Nat} {zs : List Nat} (h : QInv a b zs left (j + 1)) (hz : Small zs) (hle : b * 2 ^ j ≤ left) (hj : j / 32 < zs.length) : QInv a b (zs.set (j / 32) (lim zs (j / 32) ||| 2 ^ (j % 32))) (left - b * 2 ^ j) j := by
 obtain ⟨h1, h2, h3⟩ := h
 have e : val (zs.set (j / 32) (lim zs (j / 32) ||| 2 ^ (j % 32))) = val zs + 2 ^ j := by
  have h4 := low_bit h3
  rw [lim_eq_div zs hz] at h4
  rw [h4, val_set_add hj, pow_move]
 refine ⟨?_, ?_, ?_⟩
 · rw [e, Nat.mul_add, h1]; omega
 · rw [Nat.pow_succ, ← Nat.mul_assoc] at h2; omega
 · rw [e, Nat.add_mod_right]; exact mod_low h3
theorem QInv.no {a b left j : Nat} {zs : List Nat} (h : QInv a b zs left (j + 1)) (hlt : left < b * 2 ^ j) : QInv a b zs left j := ⟨h.1, hlt, mod_low h.2.2⟩
theorem QInv.done {a b left : Nat} {zs : List Nat} (h : QInv a b zs left 0) (hb : b ≠ 0) : val zs = a / b ∧ left = a % b := by
 obtain ⟨h1, h2, _⟩ := h
 rw [Nat.pow_zero, Nat.mul_one] at h2
 refine ⟨?_, ?_⟩
 · rw [h1, Nat.add_mul_div_left _ _ (Nat.pos_of_ne_zero hb), Nat.div_eq_of_lt h2, Nat.zero_add]
 · rw [h1, Nat.add_mul_mod_self_left, Nat.mod_eq_of_lt h2]
end Go.Proofs.YtbljphnfijiciaaDoor.Limb
namespace Go.Proofs.YtbljphnfijiciaaDoor
open Go.RowKit Limb
set_option linter.unusedVariables false
def Apart (g : Nat) (A : Option Addr) (n : Nat) : Prop := 0 < n → ∀ b o s, A = some ⟨b, o, s⟩ → b ≠ g
theorem Apart.own {w : World} {B : Nat} {A : Option Addr} {n c : Nat} {zs : List Nat} {g : Nat} (h : OwnN w B A n c zs) (hg : g < B) : Apart g A n := by
 intro hn b o s e
 obtain ⟨g', e', hB, _⟩ := h.addr hn
 rw [e] at e'; injection e' with e'; injection e' with e' _
 omega
theorem NN.elsewhere {w : World} {A : Option Addr} {n c : Nat} {xs : List Nat} {a L g : Nat} (h : NN w A n c xs a L) (hg : Apart g A n) (k : Nat) (v : Value) : NN (w.setCell ⟨g, k, none⟩ v) A n c xs a L := by
 refine ⟨⟨h.isN.1, h.isN.2.1, fun hn => ?_⟩, h.val, h.cap, h.le⟩
 obtain ⟨b, o, e, hlt, hc⟩ := h.isN.2.2 hn
 refine ⟨b, o, e, by simpa [World.setCell] using hlt, fun j hj => ?_⟩
 rw [cell_setCell_ne _ _ (by intro e2; injection e2 with e2; exact hg hn b o none e e2.symm)]
 exact hc j hj
end Go.Proofs.YtbljphnfijiciaaDoor

/- What the reference's Gcd of layer 3 comes to, as a contract over memory: the greatest divisor in common. Conditions: both lists read as limbs, of at most 40000 of them. -/
namespace Go.Proofs.YtbljphnfijiciaaDoor
open Go.RowKit Limb
set_option linter.unusedVariables false
def readCells (w : World) (b o : Nat) : Nat → List Nat
 | 0 => []
 | n + 1 => readCells w b o n ++ [match w.cell? ⟨b, o + n, none⟩ with | some (.int _ i) => i.toNat | _ => 0]
def readN (w : World) (v : Value) : Nat := match v with
 | .slice (some ⟨b, o, _⟩) n _ => val (readCells w b o n)
 | _ => 0
theorem readCells_eq {w : World} {b o n : Nat} {xs : List Nat} (h : ∀ j, j < n → w.cell? ⟨b, o + j, none⟩ = some (.int .u32 ((lim xs j : Nat) : Int))) (hl : xs.length = n) : ∀ k, k ≤ n → readCells w b o k = xs.take k := by
 intro k
 induction k with
 | zero => intro _; rfl
 | succ k ih =>
  intro hk
  rw [readCells, ih (by omega), h k (by omega), List.take_succ_eq_append_getElem (by omega)]
  simp [lim, List.getD_eq_getElem?_getD, List.getElem?_eq_getElem (show k < xs.length by omega)]
theorem readN_eq {w : World} {A : Option Addr} {n c : Nat} {xs : List Nat} (h : IsN w A n xs) : readN w (.slice A n c) = val xs := by
 by_cases hn : n = 0
 · subst hn
   obtain rfl : xs = [] := List.eq_nil_of_length_eq_zero h.len
   rcases A with _ | ⟨b, o, s⟩ <;> rfl
 · obtain ⟨b, o, rfl, _, hc⟩ := h.2.2 (by omega)
   show val (readCells w b o n) = _
   rw [readCells_eq hc h.len n (Nat.le_refl _), List.take_of_length_le (by rw [h.len]; exact Nat.le_refl _)]
end Go.Proofs.YtbljphnfijiciaaDoor

/- What the reference's calls of layer 5 come to, as contracts over memory: a number by ten and what is left, its decimal text, ten to a power. Conditions: lists read as limbs, of at most 10^4 of them; exponents of at most 10^4. -/
namespace Go.Proofs.YtbljphnfijiciaaDoor
open Go.RowKit Limb
set_option linter.unusedVariables false
theorem or_hi (x y : Nat) (hx : x < 4294967296) (hy : y < 4294967296) : bits BinOp.or IntKind.u64 ((x : Int) * 4294967296) (y : Int) = ((x * 4294967296 + y : Nat) : Int) := by
 have e1 : (x : Int) * 4294967296 = ((x * 4294967296 : Nat) : Int) := by omega
 rw [e1, u64_or_nat _ _ (by omega) (by omega), Nat.mul_comm x, show (4294967296 : Nat) = 2 ^ 32 from rfl, Nat.two_pow_add_eq_or_of_lt (by omega)]
theorem ret_digit {A : Option Addr} {n c r s : Nat} (h : r = s) : Ending.returned (.tuple #[.slice A n c, .int .u8 ((r : Nat) : Int)]) = .returned (.tuple #[.slice A n c, .int .u8 ((s : Nat) : Int)]) := by rw [h]
set_option maxHeartbeats 1000000 in
set_option maxRecDepth 4000 in
theorem refTenth_o {A : Option Addr} {n c : Nat} {xs : List Nat} {a L : Nat} {w : World} (hx : NN w A n c xs a L) (h1 : L ≤ 10000) :
 Calls Tryd.prog 37 #[.slice A n c] w fun e w' => ∃ A1 n1 c1, e = .returned (.tuple #[.slice A1 n1 c1, .int .u8 ((a % 10 : Nat) : Int)]) ∧ OwnN w' w.heap.size A1 n1 c1 (limbs (a / 10)) ∧ Below w.heap.size w w' := by
 have hle := hx.le
 have Hval := Lib.hid hx.val
 have Hlen := Lib.hid hx.isN.len
 have Hsm := Lib.hid hx.isN.small
 have HX := Lib.hid (hx.below (below_new w (.cells #[] 74)))
 have HN := Lib.hid hx
 clear hx
 have Hown : RowKit.Hid ((w.alloc (.cells #[] 74)).ownsRow w.heap.size 74 1 (.slice (some ⟨w.heap.size, 0, none⟩) 0 0) 0 (([] : List Nat).map limV)) := own_lit w [] 0 rfl (by omega)
 have Hb : RowKit.Hid (0 ≤ 1000000000 ∧ L ≤ 1000000000 ∧ w.heap.size ≤ (w.alloc (.cells #[] 74)).heap.size ∧ Small []) := ⟨by omega, by omega, by simp, small_nil⟩
 go_enter Tryd.func37, Tryd.ntmps37
 go_wp2_with (at_builtin; refine wpList_append_nat rfl _ _ rfl w.heap.size _ 0 [] rfl Hown A n c xs a L rfl HX Hb ?_)
 intro A1 c1 w1 how hgrow
 have HW := Lib.hid (below_lit hgrow.out (Nat.le_refl _))
 have How : RowKit.Hid (OwnN w1 w.heap.size A1 n c1 xs) := how.out
 have hi0 : RowKit.Hid (OneInv xs xs 10 n 0) := by
  have h := OneInv.start xs (v := 10) (by decide)
  rw [Hlen.out] at h
  exact h
 clear how hgrow Hown Hb HX
 go_wp2
 go_loopw [6, 5] (fun i rv wr => ∃ (k r : Nat) (zs : List Nat), k ≤ n ∧ i = .int .i64 ((k : Int) - 1) ∧ rv = .int .u64 (r : Int) ∧ RowKit.Hid (OneInv xs zs 10 k r) ∧ RowKit.Hid (OwnN wr w.heap.size A1 n c1 zs) ∧ RowKit.Hid (Below w.heap.size w wr)) (fun i _ _ => (intOf i + 1).toNat)
 case atStart => exact ⟨n, 0, xs, Nat.le_refl _, rfl, rfl, hi0, How, HW⟩
 case round =>
  clear hi0 How HW
  obtain ⟨k, r, zs, hk, rfl, rfl, Hinv, How, Hb⟩ := hrel
  by_cases hk0 : k = 0
  · subst hk0
    have hd := Hinv.out.done
    have Hd1 : RowKit.Hid (val zs = a / 10) := by show _ = _; rw [hd.1, Hval.out]
    have hr2 : r = a % 10 := by rw [hd.2, Hval.out]
    have Hr := Lib.hid hr2
    have hr10 := Hinv.out.2.2.2
    have hz : NN wr A1 n c1 zs (a / 10) L := ⟨How.out.isN, Hd1.out, How.out.caps.1, hle⟩
    clear hd hr2
    go_wp2_with fail
    refine (refTrim_o hz (by omega)).mono ?_
    rintro e w2 ⟨A2, n2, c2, rfl, hn2, bn⟩
    have HN2 := Lib.hid (hn2.mono Hb.out.size)
    have HW := Lib.hid (below_two Hb.out bn)
    clear hn2 bn hz Hinv How Hb
    go_wp2
    go_ret2
    exact ⟨_, _, _, ret_digit Hr.out, HN2.out, HW.out⟩
  · obtain ⟨j, rfl⟩ : ∃ j, k = j + 1 := ⟨k - 1, by omega⟩
    have ej : ((j + 1 : Nat) : Int) - 1 = (j : Int) := by omega
    rw [ej]
    obtain ⟨b0, o0, rfl, hb0, hc0⟩ := HN.out.isN.2.2 (by omega)
    obtain ⟨g, rfl, hBg, hgl⟩ := How.out.addr (by omega)
    have h1' : wr.cell? ⟨b0, o0 + j, none⟩ = some (.int .u32 ((lim xs j : Nat) : Int)) := (Hb.out.cell (p := ⟨b0, o0 + j, none⟩) hb0).trans (hc0 j (by omega))
    have h2 := How.out.cell (k := j) (by omega)
    have h4 := How.out.1.frozenAt j
    have hr := Hinv.out.2.2.2
    have hz := lim_lt Hsm.out j
    have Hst := Lib.hid (Hinv.out.step (k := j) (by rw [Hlen.out]; omega))
    rw [Hinv.out.2.1 j (by omega)] at Hst
    have hdl := one_digit (v := 10) hr hz
    have hor := or_hi r (lim xs j) (by omega) hz
    obtain ⟨z, hzz⟩ : ∃ z, z = r * 4294967296 + lim xs j := ⟨_, rfl⟩
    rw [← hzz] at hdl Hst hor
    have hzl : z < 42949672960 := by omega
    obtain ⟨q, hq⟩ : ∃ q, q = z / 10 := ⟨_, rfl⟩
    obtain ⟨m, hm⟩ : ∃ m, m = z % 10 := ⟨_, rfl⟩
    rw [← hq] at hdl Hst
    rw [← hm] at Hst
    have eq1 : (z : Int) / 10 = (q : Int) := by omega
    have em1 : (z : Int) % 10 = (m : Int) := by omega
    have Hset := Lib.hid (How.out.set j hdl)
    have Hb2 : RowKit.Hid (Below w.heap.size w (wr.setCell ⟨g, j, none⟩ (.int .u32 (q : Int)))) := Hb.out.setCell (by exact hBg) _
    clear ej hq hm hzz How Hb Hinv hc0
    go_wp2
    go_roundw
    case rel => exact ⟨j, m, zs.set j q, by omega, by go_num, by rw [em1], Hst, Hset, Hb2⟩
    case measure => simp [intOf] <;> omega
theorem OwnN.keeps {w w' : World} {B : Nat} {A : Option Addr} {n c : Nat} {zs : List Nat} (h : OwnN w B A n c zs) {row : Option Nat} {o : Obj} (hg : (w.alloc o).grownBy w' row) (hr : ∀ k, row = some k → k < B) : OwnN w' B A n c zs := by
 have ha := h.alloc o
 refine ⟨⟨h.1.1, ?_⟩, h.2⟩
 rcases ha.1.2 with h2 | ⟨g, cap, cur, hv, hB, hh, r⟩
 · exact .inl h2
 · refine .inr ⟨g, cap, cur, hv, hB, ?_, r⟩
   have hlt : g < (w.alloc o).heap.size := by
    rcases Nat.lt_or_ge g (w.alloc o).heap.size with hlt | hge
    · exact hlt
    · rw [Array.getElem?_eq_none hge] at hh; cases hh
   rw [hg.block g hlt (fun e => by have := hr g e.symm; omega)]
   exact hh
end Go.Proofs.YtbljphnfijiciaaDoor
namespace Go.Proofs.YtbljphnfijiciaaDoor.Limb
def decS (n : Nat) : List Nat := if n = 0 then [] else decT n
theorem decS_zero : decS 0 = [] := rfl
theorem decS_pos {n : Nat} (h : n ≠ 0) : decS n = decT n := if_neg h
theorem decS_step {n : Nat} (h : n ≠ 0) : decS n = decS (n / 10) ++ [48 + n % 10] := by
 rw [decS_pos h]
 by_cases h1 : n < 10
 · rw [decT_small h1, show n / 10 = 0 by omega, decS_zero, show n % 10 = n by omega]; rfl
 · rw [decT_big (by omega), decS_pos (by omega)]
def TInv (a : Nat) (zs : List Nat) (m : Nat) : Prop := decS a = decS m ++ zs.reverse ∧ Bytes zs
theorem TInv.start (a : Nat) : TInv a [] a := ⟨by simp, bytes_nil⟩
theorem TInv.step {a m : Nat} {zs : List Nat} (h : TInv a zs m) (h0 : m ≠ 0) : TInv a (zs ++ [48 + m % 10]) (m / 10) := by
 refine ⟨?_, bytes_append.2 ⟨h.2, bytes_cons.2 ⟨by omega, bytes_nil⟩⟩⟩
 rw [h.1, decS_step h0, List.reverse_append]; simp
theorem TInv.done {a : Nat} {zs : List Nat} (h : TInv a zs 0) : decS a = zs.reverse := by rw [h.1, decS_zero]; rfl
theorem TInv.len {a m L : Nat} {zs : List Nat} (h : TInv a zs m) (hl : a < 4294967296 ^ L) : zs.length ≤ 10 * L + 1 := by
 have h1 : (decS a).length ≤ 10 * L + 1 := by
  unfold decS
  split
  · simp
  · exact decT_len_limbs hl
 rw [h.1] at h1
 simp at h1
 omega
def RevInv (zs ys : List Nat) (i : Nat) : Prop :=
 ys.length = zs.length ∧ (∀ j, j < zs.length → lim ys j = if j < i ∨ zs.length ≤ j + i then lim zs (zs.length - 1 - j) else lim zs j) ∧ 2 * i ≤ zs.length + 1
theorem RevInv.start (zs : List Nat) : RevInv zs zs 0 := ⟨rfl, fun j hj => by rw [if_neg (by omega)], by omega⟩
theorem RevInv.step {zs ys : List Nat} {i k : Nat} (h : RevInv zs ys i) (hk : i + k + 1 = zs.length) (hik : i < k) : RevInv zs ((ys.set i (lim ys k)).set k (lim ys i)) (i + 1) := by
 obtain ⟨h1, h2, h3⟩ := h
 refine ⟨by simp [h1], fun j hj => ?_, by omega⟩
 have e1 := h2 i (by omega)
 have e2 := h2 k (by omega)
 rw [if_neg (by omega)] at e1 e2
 by_cases j1 : j = k
 · subst j1
   rw [lim_set_self (by simp; omega), e1, if_pos (by omega), show zs.length - 1 - j = i by omega]
 · rw [lim_set_ne (fun e => j1 e.symm)]
   by_cases j2 : j = i
   · subst j2
     rw [lim_set_self (by omega), e2, if_pos (by omega), show zs.length - 1 - j = k by omega]
   · rw [lim_set_ne (fun e => j2 e.symm), h2 j hj]
     by_cases c : j < i ∨ zs.length ≤ j + i
     · rw [if_pos c, if_pos (by omega)]
     · rw [if_neg c, if_neg (by omega)]
theorem eq_of_lim {xs ys : List Nat} (hl : xs.length = ys.length) (h : ∀ j, j < xs.length → lim xs j = lim ys j) : xs = ys := by
 refine List.ext_getElem hl fun j h1 h2 => ?_
 have := h j h1
 simpa [lim, List.getD_eq_getElem?_getD, List.getElem?_eq_getElem h1, List.getElem?_eq_getElem h2] using this
theorem lim_reverse {zs : List Nat} {j : Nat} (h : j < zs.length) : lim zs.reverse j = lim zs (zs.length - 1 - j) := by
 simp [lim, List.getD_eq_getElem?_getD, List.getElem?_reverse h]
theorem RevInv.done {zs ys : List Nat} {i k : Nat} (h : RevInv zs ys i) (hk : i + k + 1 = zs.length) (hik : k ≤ i) : ys = zs.reverse := by
 obtain ⟨h1, h2, h3⟩ := h
 refine eq_of_lim (by simp [h1]) fun j hj => ?_
 rw [h2 j (by omega), lim_reverse (by omega)]
 by_cases c : j < i ∨ zs.length ≤ j + i
 · rw [if_pos c]
 · rw [if_neg c, show zs.length - 1 - j = j by omega]
end Go.Proofs.YtbljphnfijiciaaDoor.Limb
namespace Go.Proofs.YtbljphnfijiciaaDoor
open Go.RowKit Limb
set_option linter.unusedVariables false
set_option maxHeartbeats 2000000 in
set_option maxRecDepth 4000 in
theorem refText_c {A : Option Addr} {n c : Nat} {xs : List Nat} {a L : Nat} {w : World} (hx : NN w A n c xs a L) (h1 : L ≤ 10000) :
 Calls Tryd.prog 30 #[.slice A n c] w fun e w' => e = .returned (.string (strOf (decT a))) ∧ Below w.heap.size w w' := by
 have Hlt := Lib.hid (lt_pow hx)
 go_enter Tryd.func30, Tryd.ntmps30
 go_wp2_with fail
 refine (refTrim_c hx (by omega)).mono ?_
 rintro e w1 ⟨A1, n1, c1, rfl, hn1, bn⟩
 have HN := Lib.hid hn1
 have HW := Lib.hid bn
 have HT := Lib.hid (TInv.start a)
 clear hn1 bn hx
 go_wp2
 go_loopw [3, 4] (fun bv nv wr => ∃ (m k : Nat) (zs : List Nat) (A2 : Option Addr) (c2 : Nat) (A3 : Option Addr) (n3 c3 : Nat), bv = .slice A2 k c2 ∧ nv = .slice A3 n3 c3 ∧ RowKit.Hid (TInv a zs m) ∧ RowKit.Hid (OwnB wr w.heap.size A2 k c2 zs) ∧ RowKit.Hid (NN wr A3 n3 c3 (limbs m) m L) ∧ RowKit.Hid (Below w.heap.size w wr)) (fun _ nv wr => readN wr nv)
 case atStart => exact ⟨a, 0, [], none, 0, _, _, _, rfl, rfl, HT, OwnB.nil _ _, HN, HW⟩
 case round =>
  clear HN HW HT
  obtain ⟨m, k, zs, A2, c2, A3, n3, c3, rfl, rfl, HT, HB, HN, HW⟩ := hrel
  have hn := HN.out
  by_cases h0 : m = 0
  · subst h0
    have hn3 : n3 = 0 := by have := hn.isN.len; rw [limbs_zero] at this; exact this.symm
    subst hn3
    have Hd := Lib.hid HT.out.done
    have hkl := HB.out.len
    by_cases ha : a = 0
    · subst ha
      have hz : zs.reverse = [] := Hd.out.symm
      obtain rfl : zs = [] := by simpa using hz
      obtain rfl : k = 0 := hkl.symm
      clear hn hz hkl Hd
      go_wp2
      go_ret
      exact ⟨rfl, HW.out⟩
    · have Hz : RowKit.Hid (zs.reverse = decT a) := by show _ = _; rw [← Hd.out, decS_pos ha]
      have hkpos : 0 < k := by
       have h := decT_pos a
       rw [← Hz.out, List.length_reverse, hkl] at h
       exact h
      have hke : ((k : Int) == 0) = false := by simp; omega
      have HRev := Lib.hid (RevInv.start zs)
      have Hkl := Lib.hid hkl
      have hk9 : k ≤ 1000000000 := by have := HT.out.len Hlt.out; omega
      obtain ⟨g, rfl, hBg, hgl⟩ := HB.out.addr hkpos
      have HB0 := HB
      have HW0 := HW
      clear hn hkl ha Hd HN HT HB HW
      go_wp2
      go_loopw [7, 8] (fun iv kv wv => ∃ (i q : Nat) (ys : List Nat), i + q + 1 = k ∧ iv = .int .i64 (i : Int) ∧ kv = .int .i64 (q : Int) ∧ RowKit.Hid (RevInv zs ys i) ∧ RowKit.Hid (OwnB wv w.heap.size (some ⟨g, 0, none⟩) k c2 ys) ∧ RowKit.Hid (Below w.heap.size w wv)) (fun iv _ _ => k - (intOf iv).toNat)
      case atStart => exact ⟨0, k - 1, zs, by omega, rfl, by go_num, HRev, HB0, HW0⟩
      case round =>
       clear HRev HB0 HW0
       obtain ⟨i, q, ys, hiq, rfl, rfl, HRev, HB, HW⟩ := hrel
       by_cases hlt : i < q
       · have hi := HB.out.cell (k := i) (by omega)
         have hq := HB.out.cell (k := q) (by omega)
         have fi := HB.out.1.frozenAt i
         have fq := HB.out.1.frozenAt q
         have li := bytes_lim HB.out.bytes i
         have lq := bytes_lim HB.out.bytes q
         have Hst := Lib.hid (HRev.out.step (k := q) (by rw [Hkl.out]; exact hiq) hlt)
         have HB1 := Lib.hid (((HB.out.set i lq).set q li).below (Below.refl _ _).drew (Nat.le_refl _))
         have HW1 := Lib.hid (((HW.out.setCell (p := ⟨g, i, none⟩) (by exact hBg) (.int .u8 ((lim ys q : Nat) : Int))).setCell (p := ⟨g, q, none⟩) (by exact hBg) (.int .u8 ((lim ys i : Nat) : Int))).drew)
         clear HRev HB HW
         go_wp2
         go_region
         clear hi hq fi fq
         go_wp2
         go_roundw
         case rel => exact ⟨i + 1, q - 1, (ys.set i (lim ys q)).set q (lim ys i), by omega, by go_num, by go_num, Hst, HB1, HW1⟩
         case measure => simp [intOf]; omega
       · have hy := HRev.out.done (k := q) (by rw [Hkl.out]; exact hiq) (by omega)
         have hlt2 : q ≤ i := by omega
         have hconv := run_text HB.out.isB (c := c2) hkpos
         rw [hy, Hz.out] at hconv
         clear hy HRev HB hlt
         go_wp2
         go_ret
         exact ⟨rfl, HW.out⟩
  · have hn3 : 0 < n3 := by
     have h := hn.isN.len
     rw [limbs_pos h0] at h
     simp at h
     omega
    have hn3e : decide (0 < (n3 : Int)) = true := by simp; exact hn3
    have Hst := Lib.hid (HT.out.step h0)
    have hkl := HT.out.len Hlt.out
    have hkl2 := HB.out.len
    have hk9 : k ≤ 1000000000 := by omega
    have hm10 : m % 10 < 10 := Nat.mod_lt _ (by decide)
    have H0 := Lib.hid h0
    clear h0 hkl hkl2
    go_wp2_with fail
    refine (refTenth_o hn h1).mono ?_
    rintro e w2 ⟨A4, n4, c4, rfl, hq, bn⟩
    have HQ := Lib.hid hq
    have Hrow := Lib.hid (fun k hk => (HB.out.1.lt k hk).2)
    have Hq := Lib.hid (Nat.lt_of_le_of_lt (Nat.div_le_self m 10) (lt_pow hn))
    have HB2 := Lib.hid (HB.out.below bn (Nat.le_refl _))
    have HW2 := Lib.hid (below_two HW.out bn)
    have Hm := Lib.hid hn.isN
    clear hq bn HB HW hn HN
    obtain ⟨d, hd⟩ : ∃ d, d = m % 10 := ⟨_, rfl⟩
    rw [← hd] at hm10 Hst ⊢
    clear hd
    have Hown : RowKit.Hid ((w2.alloc (.cells #[Value.int IntKind.u8 (48 + (d : Int))] 5)).ownsRow w.heap.size 5 1 (.slice A2 k c2) k (zs.map byV)) := (HB2.out.alloc _).row
    have Hlit : RowKit.Hid ((w2.alloc (.cells #[Value.int IntKind.u8 (48 + (d : Int))] 5)).cell? ⟨w2.heap.size, 0, none⟩ = some (.int .u8 ((48 + d : Nat) : Int)) ∧ 48 + d < 256) := ⟨by rw [World.cell?_alloc_at _ _ _ _ rfl]; rfl, by omega⟩
    have Hb : RowKit.Hid (k ≤ 1000000000 ∧ w.heap.size ≤ (w2.alloc (.cells #[Value.int IntKind.u8 (48 + (d : Int))] 5)).heap.size ∧ Bytes zs) := ⟨hk9, by have := HW2.out.size; simp; omega, HB2.out.bytes⟩
    go_wp2_with (at_builtin; refine wpList_append_byte rfl _ _ rfl w.heap.size _ k zs rfl Hown w2.heap.size rfl (48 + d) Hlit Hb ?_)
    intro A5 c5 w3 how3 hg3
    have bw3 := below_grownB HW2.out HB2.out hg3.out
    have HQ3 := Lib.hid (NN.own (HQ.out.keeps hg3.out Hrow.out) Hq.out)
    have HM : RowKit.Hid (readN w3 (.slice A4 n4 c4) < readN wr (.slice A3 n3 c3)) := by
     show _ < _
     rw [readN_eq HQ3.out.isN, readN_eq Hm.out, val_limbs, val_limbs]
     exact Nat.div_lt_self (Nat.pos_of_ne_zero H0.out) (by decide)
    have HW3 := Lib.hid bw3
    clear hg3 Hown Hlit Hb HB2 HW2 bw3 HQ Hrow Hq
    go_wp2
    go_roundw
    case rel => exact ⟨m / 10, k + 1, zs ++ [48 + d], A5, c5, A4, n4, c4, rfl, rfl, Hst, how3, HQ3, HW3⟩
    case measure => exact HM.out
end Go.Proofs.YtbljphnfijiciaaDoor

/- What the reference's Pow of layer 2 comes to, as a contract over memory: the power bit by bit, and whether there is one. Conditions: the list reads as limbs, of at most 10^5 of them. -/
namespace Go.Proofs.YtbljphnfijiciaaDoor
open Go.RowKit Limb
set_option linter.unusedVariables false
end Go.Proofs.YtbljphnfijiciaaDoor

/- What the reference's Parse of layer 5 comes to, as a contract over memory: the number of a text of decimal digits, or that there is none. Conditions: texts that can be read. -/
namespace Go.Proofs.YtbljphnfijiciaaDoor
open Go.RowKit Limb
set_option linter.unusedVariables false
def Row2 (w : World) (g : Nat) (T : TypeId) (u v : Value) : Prop := w.heap[g]? = some (.cells #[u, v] T (0, 0))
section
variable {w w' : World} {g : Nat} {T : TypeId} {u v : Value}
theorem Row2.lt (h : Row2 w g T u v) : g < w.heap.size := by
 rcases Nat.lt_or_ge g w.heap.size with hlt | hge
 · exact hlt
 · unfold Row2 at h; rw [Array.getElem?_eq_none hge] at h; cases h
theorem Row2.below (h : Row2 w g T u v) (hb : Below w.heap.size w w') : Row2 w' g T u v := (hb.block g h.lt).trans h
theorem Row2.c0 (h : Row2 w g T u v) : w.cell? ⟨g, 0, none⟩ = some u := by unfold Row2 at h; simp [World.cell?, h]
theorem Row2.c1 (h : Row2 w g T u v) : w.cell? ⟨g, 1, none⟩ = some v := by unfold Row2 at h; simp [World.cell?, h]
theorem Row2.free (h : Row2 w g T u v) (k : Nat) : w.frozen? ⟨g, k, none⟩ = false := by unfold Row2 at h; simp [World.frozen?, h]
theorem Row2.fill (h : Row2 w g T u v) (x y : Value) : ((w.setCell ⟨g, 0, none⟩ x).setCell ⟨g, 1, none⟩ y).heap[g]? = some (.cells #[x, y] T (0, 0)) := by
 unfold Row2 at h
 simp [World.setCell, Array.getElem?_modify, h]
theorem row2_new (w : World) (T : TypeId) (u v : Value) : Row2 (w.alloc (.cells #[u, v] T)) w.heap.size T u v := heap_alloc_new _ _
theorem below_fill (h : Below w.heap.size w w') (hg : w.heap.size ≤ g) (x y : Value) : Below w.heap.size w ((w'.setCell ⟨g, 0, none⟩ x).setCell ⟨g, 1, none⟩ y) :=
 (h.setCell (by exact hg) _).setCell (by exact hg) _
end
def PInv (l : List Nat) (i t : Nat) : Prop := allDig (l.take i) = true ∧ t = decV (l.take i)
theorem PInv.start (l : List Nat) : PInv l 0 0 := ⟨rfl, rfl⟩
theorem PInv.step {l : List Nat} {i t : Nat} (h : PInv l i t) (hi : i < l.length) (hd : isDig (lim l i) = true) : PInv l (i + 1) (t * 10 + (lim l i - 48)) := by
 have e : l.take (i + 1) = l.take i ++ [lim l i] := by
  rw [List.take_succ_eq_append_getElem hi]
  simp [lim, List.getD_eq_getElem?_getD, List.getElem?_eq_getElem hi]
 refine ⟨by rw [e, allDig_append, h.1]; simp [allDig, hd], by rw [e, decV_snoc, h.2]⟩
theorem PInv.lt {l : List Nat} {i t : Nat} (h : PInv l i t) (hi : l.length ≤ 2000) : t < 4294967296 ^ 223 := by
 have h1 := decV_lt h.1
 rw [← h.2] at h1
 refine Nat.lt_of_lt_of_le h1 (dec_room ?_)
 rw [List.length_take]
 omega
end Go.Proofs.YtbljphnfijiciaaDoor

/- Whole numbers with a sign in memory: a struct of a sign and a list of limbs that reads as an Int; answers are in the shortest limbs, and 0 is not below 0. Texts of whole numbers. No condition. -/
namespace Go.Proofs.YtbljphnfijiciaaDoor
open Go.RowKit Limb
set_option linter.unusedVariables false
def sg (z : Int) : Bool := decide (z < 0)
theorem sg_neg {z : Int} (h : z < 0) : sg z = true := by simp [sg, h]
theorem sg_pos {z : Int} (h : 0 ≤ z) : sg z = false := by simp [sg]; omega
structure ZZ (w : World) (s : Bool) (A : Option Addr) (n c : Nat) (xs : List Nat) (z : Int) (L : Nat) : Prop where
 nn : NN w A n c xs z.natAbs L
 sgn : z = if s = true then -(z.natAbs : Int) else (z.natAbs : Int)
def zOf (s : Bool) (a : Nat) : Int := if s = true then -(a : Int) else (a : Int)
theorem zOf_abs (s : Bool) (a : Nat) : (zOf s a).natAbs = a := by unfold zOf; split <;> omega
theorem ZZ.of {w : World} {s : Bool} {A : Option Addr} {n c : Nat} {xs : List Nat} {a L : Nat} (h : NN w A n c xs a L) : ZZ w s A n c xs (zOf s a) L := by
 refine ⟨by rw [zOf_abs]; exact h, ?_⟩
 rw [zOf_abs]; rfl
theorem ZZ.below {w w' : World} {s : Bool} {A : Option Addr} {n c : Nat} {xs : List Nat} {z : Int} {L : Nat} (h : ZZ w s A n c xs z L) (hb : Below w.heap.size w w') : ZZ w' s A n c xs z L := ⟨h.nn.below hb, h.sgn⟩
theorem ZZ.mk' {w : World} {A : Option Addr} {n c : Nat} {z : Int} {L : Nat} (h : NN w A n c (limbs z.natAbs) z.natAbs L) : ZZ w (sg z) A n c (limbs z.natAbs) z L := by
 refine ⟨h, ?_⟩
 unfold sg
 by_cases h0 : z < 0
 · simp [h0]; omega
 · simp [h0]; omega
def zT (z : Int) : List Nat := if z < 0 then 45 :: decT z.natAbs else decT z.natAbs
theorem zT_neg {z : Int} (h : z < 0) : zT z = 45 :: decT z.natAbs := if_pos h
theorem zT_pos {z : Int} (h : 0 ≤ z) : zT z = decT z.natAbs := if_neg (by omega)
theorem zT_bytes (z : Int) : Bytes (zT z) := by
 unfold zT; split
 · exact bytes_cons.2 ⟨by decide, decT_bytes _⟩
 · exact decT_bytes _
theorem minus_text (l : List Nat) : (⟨#[45]⟩ : ByteArray) ++ strOf l = strOf (45 :: l) := by
 have e : (⟨#[45]⟩ : ByteArray) = strOf [45] := rfl
 rw [e, strOf_append]; rfl
theorem dec_head (n : Nat) : (decT n).head? ≠ some 45 := by
 intro h
 cases hd : decT n with
 | nil => exact absurd hd (decT_ne n)
 | cons x l =>
  rw [hd] at h
  simp at h
  have := allDig_iff.1 (decT_dig n) x (by rw [hd]; simp)
  omega
theorem zT_inj {x y : Int} (h : zT x = zT y) : x = y := by
 by_cases hx : x < 0
 · by_cases hy : y < 0
   · rw [zT_neg hx, zT_neg hy] at h
     have := decT_inj (List.cons.inj h).2
     omega
   · rw [zT_neg hx, zT_pos (by omega)] at h
     exact absurd (by rw [← h]; rfl) (dec_head y.natAbs)
 · by_cases hy : y < 0
   · rw [zT_pos (by omega), zT_neg hy] at h
     exact absurd (by rw [h]; rfl) (dec_head x.natAbs)
   · rw [zT_pos (by omega), zT_pos (by omega)] at h
     have := decT_inj h
     omega
end Go.Proofs.YtbljphnfijiciaaDoor

/- What the statements' helpers keep.Int and keep.OwnInt, and the reference of layer 6, answer, as contracts over memory. Conditions: sizes of at most so many limbs. -/
namespace Go.Proofs.YtbljphnfijiciaaDoor
open Go.RowKit Limb
set_option linter.unusedVariables false
theorem int_size : (Tryd.prog.info? 52).map (·.size) = some 2 := by kernel_rfl
theorem NN.put2 {w : World} {A : Option Addr} {n c : Nat} {xs : List Nat} {a L g : Nat} {T : TypeId} {b0 : Bool} {A0 : Option Addr} {n0 c0 : Nat} (h : NN w A n c xs a L) (hb : Row2 w g T (.bool b0) (.slice A0 n0 c0)) (u v : Value) : NN ((w.setCell ⟨g, 0, none⟩ u).setCell ⟨g, 1, none⟩ v) A n c xs a L := by
 refine ⟨⟨h.isN.1, h.isN.2.1, fun hn => ?_⟩, h.val, h.cap, h.le⟩
 obtain ⟨b, o, e, hlt, hc⟩ := h.isN.2.2 hn
 have hbg : b ≠ g := by
  rintro rfl
  have h1 := hc 0 hn
  unfold Row2 at hb
  match o, h1 with
  | 0, h1 => simp [World.cell?, hb] at h1
  | 1, h1 => simp [World.cell?, hb] at h1
  | o + 2, h1 => simp [World.cell?, hb] at h1
 refine ⟨b, o, e, by simpa [World.setCell] using hlt, fun j hj => ?_⟩
 rw [cell_setCell_ne _ _ (by intro e; injection e with e; exact hbg e.symm), cell_setCell_ne _ _ (by intro e; injection e with e; exact hbg e.symm)]
 exact hc j hj
section
variable {w : World} {s s' : Bool} {A A' : Option Addr} {n c n' c' : Nat} {xs ys : List Nat} {x y : Int} {L L' : Nat}
end
end Go.Proofs.YtbljphnfijiciaaDoor

/- Blocks of three and of four cells: what they hold, what stays where they are filled. No condition. -/
namespace Go.Proofs.YtbljphnfijiciaaDoor
open Go.RowKit Limb
set_option linter.unusedVariables false
def Row3 (w : World) (g : Nat) (T : TypeId) (a b c : Value) : Prop := w.heap[g]? = some (.cells #[a, b, c] T (0, 0))
section
variable {w w' : World} {g : Nat} {T : TypeId} {a b c : Value}
theorem Row3.lt (h : Row3 w g T a b c) : g < w.heap.size := by
 rcases Nat.lt_or_ge g w.heap.size with hlt | hge
 · exact hlt
 · unfold Row3 at h; rw [Array.getElem?_eq_none hge] at h; cases h
theorem Row3.below (h : Row3 w g T a b c) (hb : Below w.heap.size w w') : Row3 w' g T a b c := (hb.block g h.lt).trans h
theorem Row3.c0 (h : Row3 w g T a b c) : w.cell? ⟨g, 0, none⟩ = some a := by unfold Row3 at h; simp [World.cell?, h]
theorem Row3.c1 (h : Row3 w g T a b c) : w.cell? ⟨g, 1, none⟩ = some b := by unfold Row3 at h; simp [World.cell?, h]
theorem Row3.c2 (h : Row3 w g T a b c) : w.cell? ⟨g, 2, none⟩ = some c := by unfold Row3 at h; simp [World.cell?, h]
theorem Row3.free (h : Row3 w g T a b c) (k : Nat) : w.frozen? ⟨g, k, none⟩ = false := by unfold Row3 at h; simp [World.frozen?, h]
theorem Row3.fill (h : Row3 w g T a b c) (x y z : Value) : Row3 (((w.setCell ⟨g, 0, none⟩ x).setCell ⟨g, 1, none⟩ y).setCell ⟨g, 2, none⟩ z) g T x y z := by
 unfold Row3 at h ⊢
 simp [World.setCell, Array.getElem?_modify, h]
end
def Row4 (w : World) (g : Nat) (T : TypeId) (a b c d : Value) : Prop := w.heap[g]? = some (.cells #[a, b, c, d] T (0, 0))
section
variable {w w' : World} {g : Nat} {T : TypeId} {a b c d : Value}
theorem Row4.lt (h : Row4 w g T a b c d) : g < w.heap.size := by
 rcases Nat.lt_or_ge g w.heap.size with hlt | hge
 · exact hlt
 · unfold Row4 at h; rw [Array.getElem?_eq_none hge] at h; cases h
theorem Row4.below (h : Row4 w g T a b c d) (hb : Below w.heap.size w w') : Row4 w' g T a b c d := (hb.block g h.lt).trans h
theorem Row4.c0 (h : Row4 w g T a b c d) : w.cell? ⟨g, 0, none⟩ = some a := by unfold Row4 at h; simp [World.cell?, h]
theorem Row4.c1 (h : Row4 w g T a b c d) : w.cell? ⟨g, 1, none⟩ = some b := by unfold Row4 at h; simp [World.cell?, h]
theorem Row4.c2 (h : Row4 w g T a b c d) : w.cell? ⟨g, 2, none⟩ = some c := by unfold Row4 at h; simp [World.cell?, h]
theorem Row4.c3 (h : Row4 w g T a b c d) : w.cell? ⟨g, 3, none⟩ = some d := by unfold Row4 at h; simp [World.cell?, h]
theorem Row4.free (h : Row4 w g T a b c d) (k : Nat) : w.frozen? ⟨g, k, none⟩ = false := by unfold Row4 at h; simp [World.frozen?, h]
theorem Row4.fill (h : Row4 w g T a b c d) (x y z v : Value) : Row4 ((((w.setCell ⟨g, 0, none⟩ x).setCell ⟨g, 1, none⟩ y).setCell ⟨g, 2, none⟩ z).setCell ⟨g, 3, none⟩ v) g T x y z v := by
 unfold Row4 at h ⊢
 simp [World.setCell, Array.getElem?_modify, h]
end
end Go.Proofs.YtbljphnfijiciaaDoor

/- A block of cells as a list (a local array, a struct): what it holds, what a store leaves of it. Of any program; no condition. -/
namespace Go.Proofs.YtbljphnfijiciaaDoor
open Go.RowKit Limb
set_option linter.unusedVariables false
def RowV (w : World) (g : Nat) (T : TypeId) (vs : List Value) : Prop := w.heap[g]? = some (.cells vs.toArray T (0, 0))
section
variable {w w' : World} {g : Nat} {T : TypeId} {vs : List Value}
theorem RowV.lt (h : RowV w g T vs) : g < w.heap.size := by
 rcases Nat.lt_or_ge g w.heap.size with hlt | hge
 · exact hlt
 · unfold RowV at h; rw [Array.getElem?_eq_none hge] at h; cases h
theorem RowV.below (h : RowV w g T vs) (hb : Below w.heap.size w w') : RowV w' g T vs := (hb.block g h.lt).trans h
theorem RowV.cell (h : RowV w g T vs) {k : Nat} {v : Value} (hk : vs[k]? = some v) : w.cell? ⟨g, k, none⟩ = some v := by
 unfold RowV at h
 have e : (vs.toArray)[k]? = some v := by rw [List.getElem?_toArray]; exact hk
 simp only [World.cell?, h]
 exact e
theorem RowV.free (h : RowV w g T vs) (k : Nat) : w.frozen? ⟨g, k, none⟩ = false := by unfold RowV at h; simp [World.frozen?, h]
theorem RowV.set (h : RowV w g T vs) (k : Nat) (v : Value) : RowV (w.setCell ⟨g, k, none⟩ v) g T (vs.set k v) := by
 unfold RowV at h ⊢
 have e : (vs.set k v).toArray = vs.toArray.setIfInBounds k v := by simp
 rw [e]
 simp [World.setCell, Array.getElem?_modify, h]
theorem RowV.far (h : RowV w g T vs) {g' : Nat} (hne : g' ≠ g) (k : Nat) (v : Value) : RowV (w.setCell ⟨g', k, none⟩ v) g T vs := by
 unfold RowV at h ⊢
 simp only [World.setCell, Array.getElem?_modify]
 rw [if_neg hne]
 exact h
end
end Go.Proofs.YtbljphnfijiciaaDoor

/- Mathematics of dimensions: lists of exponents, products and powers as far as exponents go, and their texts: two have one text just if they are one. No condition. -/
namespace Go.Proofs.YtbljphnfijiciaaDoor
open Go.RowKit Limb
set_option linter.unusedVariables false
def goodE (x : Int) : Bool := decide (-200 ≤ x) && decide (x ≤ 200)
def goodD (ds : List Int) : Bool := ds.all goodE
theorem goodE_iff {x : Int} : goodE x = true ↔ -200 ≤ x ∧ x ≤ 200 := by unfold goodE; rw [Bool.and_eq_true, decide_eq_true_eq, decide_eq_true_eq]
theorem goodD_iff {ds : List Int} : goodD ds = true ↔ ∀ x ∈ ds, -200 ≤ x ∧ x ≤ 200 := by
 unfold goodD
 rw [List.all_eq_true]
 exact ⟨fun h x hx => goodE_iff.1 (h x hx), fun h x hx => goodE_iff.2 (h x hx)⟩
def dim0 : List Int := [0, 0, 0, 0, 0, 0, 0]
def mayD (ds : List Int) : List Int × Int := if goodD ds = true then (ds, 0) else (dim0, 2)
def mulD (a b : List Int) : List Int × Int := if goodD a = true ∧ goodD b = true then mayD (List.zipWith (· + ·) a b) else (dim0, 1)
def divD (a b : List Int) : List Int × Int := if goodD a = true ∧ goodD b = true then mayD (List.zipWith (· - ·) a b) else (dim0, 1)
def powD (a : List Int) (n : Int) : List Int × Int := if goodD a = true then mayD (a.map (· * n)) else (dim0, 1)
def dimN : List (List Nat) := [[109], [107, 103], [115], [65], [75], [109, 111, 108], [99, 100]]
def piece (n : List Nat) (e : Int) : List Nat := n ++ (if e = 1 then [] else 94 :: zT e)
def dimGo : List (List Nat) → List Int → List Nat → List Nat
 | n :: ns, e :: es, s => dimGo ns es (if e = 0 then s else if s = [] then piece n e else s ++ 32 :: piece n e)
 | _, _, s => s
def dimT (ds : List Int) : List Nat := if dimGo dimN ds [] = [] then [49] else dimGo dimN ds []
def pieces : List (List Nat) → List Int → List (List Nat)
 | n :: ns, e :: es => if e = 0 then pieces ns es else piece n e :: pieces ns es
 | _, _ => []
def joinB : List (List Nat) → List Nat
 | [] => []
 | [p] => p
 | p :: q :: r => p ++ 32 :: joinB (q :: r)
def behind : List (List Nat) → List Nat
 | [] => []
 | p :: r => 32 :: (p ++ behind r)
theorem joinB_cons (p : List Nat) (r : List (List Nat)) : joinB (p :: r) = p ++ behind r := by
 induction r generalizing p with
 | nil => simp [joinB, behind]
 | cons q r ih => rw [joinB, ih, behind]
def Word (n : List Nat) : Prop := n ≠ [] ∧ ∀ x ∈ n, 65 ≤ x ∧ x ≠ 94
theorem zT_blank (e : Int) : ∀ x ∈ zT e, x ≠ 32 := by
 intro x hx
 have hd : ∀ y ∈ decT e.natAbs, y ≠ 32 := fun y hy => by have := allDig_iff.1 (decT_dig _) y hy; omega
 unfold zT at hx
 split at hx
 · rcases List.mem_cons.1 hx with h | h
   · omega
   · exact hd x h
 · exact hd x hx
theorem piece_ne {n : List Nat} {e : Int} (h : Word n) : piece n e ≠ [] := by unfold piece; intro h2; exact h.1 (List.append_eq_nil_iff.1 h2).1
theorem piece_blank {n : List Nat} {e : Int} (h : Word n) : ∀ x ∈ piece n e, x ≠ 32 := by
 intro x hx
 unfold piece at hx
 rcases List.mem_append.1 hx with h1 | h1
 · have := (h.2 x h1).1; omega
 · split at h1
   · cases h1
   · rcases List.mem_cons.1 h1 with h2 | h2
     · omega
     · exact zT_blank e x h2
theorem piece_name {n : List Nat} {e : Int} (h : Word n) : (piece n e).takeWhile (fun x => x != 94) = n := by
 have hw : ∀ (l : List Nat), (∀ x ∈ l, 65 ≤ x ∧ x ≠ 94) → ∀ r : List Nat, (l ++ 94 :: r).takeWhile (fun x => x != 94) = l := by
  intro l
  induction l with
  | nil => intro _ r; rfl
  | cons x l ih =>
   intro hl r
   have hb : (x != 94) = true := by rw [bne_iff_ne]; exact (hl x (by simp)).2
   rw [List.cons_append, List.takeWhile_cons_of_pos (p := fun x => x != 94) hb, ih (fun y hy => hl y (List.mem_cons_of_mem _ hy))]
 have hw0 : ∀ (l : List Nat), (∀ x ∈ l, 65 ≤ x ∧ x ≠ 94) → l.takeWhile (fun x => x != 94) = l := by
  intro l
  induction l with
  | nil => intro _; rfl
  | cons x l ih =>
   intro hl
   have hb : (x != 94) = true := by rw [bne_iff_ne]; exact (hl x (by simp)).2
   rw [List.takeWhile_cons_of_pos (p := fun x => x != 94) hb, ih (fun y hy => hl y (List.mem_cons_of_mem _ hy))]
 unfold piece
 split
 · rw [List.append_nil]; exact hw0 n h.2
 · exact hw n h.2 _
theorem piece_inj {n : List Nat} {e f : Int} (h : piece n e = piece n f) : e = f := by
 unfold piece at h
 have h2 := List.append_cancel_left h
 by_cases h1 : e = 1
 · by_cases h3 : f = 1
   · omega
   · rw [if_pos h1, if_neg h3] at h2; cases h2
 · by_cases h3 : f = 1
   · rw [if_neg h1, if_pos h3] at h2; cases h2
   · rw [if_neg h1, if_neg h3] at h2
     exact zT_inj (List.cons.inj h2).2
theorem joinB_inj : ∀ {l r : List (List Nat)}, (∀ p ∈ l, p ≠ [] ∧ ∀ x ∈ p, x ≠ 32) → (∀ p ∈ r, p ≠ [] ∧ ∀ x ∈ p, x ≠ 32) → joinB l = joinB r → l = r := by
 have hcut : ∀ (p : List Nat), (∀ x ∈ p, x ≠ 32) → ∀ q : List Nat, (∀ x ∈ q, x ≠ 32) → ∀ a b : List Nat, (a = [] ∨ ∃ t, a = 32 :: t) → (b = [] ∨ ∃ t, b = 32 :: t) → p ++ a = q ++ b → p = q ∧ a = b := by
  intro p
  induction p with
  | nil =>
   intro _ q hq a b ha hb h
   cases q with
   | nil => exact ⟨rfl, h⟩
   | cons y q =>
    rcases ha with rfl | ⟨t, rfl⟩
    · simp at h
    · have h2 := (List.cons.inj h).1
      exact absurd h2.symm (hq y (by simp))
  | cons x p ih =>
   intro hp q hq a b ha hb h
   cases q with
   | nil =>
    rcases hb with rfl | ⟨t, rfl⟩
    · simp at h
    · have h2 := (List.cons.inj h).1
      exact absurd h2 (hp x (by simp))
   | cons y q =>
    obtain ⟨h1, h2⟩ := List.cons.inj h
    obtain ⟨h3, h4⟩ := ih (fun z hz => hp z (List.mem_cons_of_mem _ hz)) q (fun z hz => hq z (List.mem_cons_of_mem _ hz)) a b ha hb h2
    exact ⟨by rw [h1, h3], h4⟩
 have hbeh : ∀ r : List (List Nat), behind r = [] ∨ ∃ t, behind r = 32 :: t := fun r => by cases r with
  | nil => exact .inl rfl
  | cons p r => exact .inr ⟨_, rfl⟩
 have hall : ∀ (l r : List (List Nat)), (∀ p ∈ l, p ≠ [] ∧ ∀ x ∈ p, x ≠ 32) → (∀ p ∈ r, p ≠ [] ∧ ∀ x ∈ p, x ≠ 32) → behind l = behind r → l = r := by
  intro l
  induction l with
  | nil => intro r _ _ h; cases r with
   | nil => rfl
   | cons p r => cases h
  | cons p l ih =>
   intro r hl hr h
   cases r with
   | nil => cases h
   | cons q r =>
    have h2 := (List.cons.inj h).2
    obtain ⟨h3, h4⟩ := hcut p (hl p (by simp)).2 q (hr q (by simp)).2 _ _ (hbeh l) (hbeh r) h2
    rw [h3, ih r (fun z hz => hl z (List.mem_cons_of_mem _ hz)) (fun z hz => hr z (List.mem_cons_of_mem _ hz)) h4]
 intro l r hl hr h
 cases l with
 | nil => cases r with
  | nil => rfl
  | cons q r =>
   rw [joinB_cons] at h
   exact absurd (List.append_eq_nil_iff.1 h.symm).1 (hr q (by simp)).1
 | cons p l => cases r with
  | nil =>
   rw [joinB_cons] at h
   exact absurd (List.append_eq_nil_iff.1 h).1 (hl p (by simp)).1
  | cons q r =>
   rw [joinB_cons, joinB_cons] at h
   obtain ⟨h3, h4⟩ := hcut p (hl p (by simp)).2 q (hr q (by simp)).2 _ _ (hbeh l) (hbeh r) h
   rw [h3, hall l r (fun z hz => hl z (List.mem_cons_of_mem _ hz)) (fun z hz => hr z (List.mem_cons_of_mem _ hz)) h4]
theorem pieces_mem : ∀ {ns : List (List Nat)} {es : List Int} {p : List Nat}, p ∈ pieces ns es → ∃ n ∈ ns, ∃ e, p = piece n e
 | [], es, p, h => by cases es <;> cases h
 | n :: ns, [], p, h => by cases h
 | n :: ns, e :: es, p, h => by
  unfold pieces at h
  split at h
  · obtain ⟨n', h1, e', h2⟩ := pieces_mem h
    exact ⟨n', List.mem_cons_of_mem _ h1, e', h2⟩
  · rcases List.mem_cons.1 h with h2 | h2
    · exact ⟨n, by simp, e, h2⟩
    · obtain ⟨n', h1, e', h3⟩ := pieces_mem h2
      exact ⟨n', List.mem_cons_of_mem _ h1, e', h3⟩
theorem pieces_inj : ∀ {ns : List (List Nat)} {al bl : List Int}, (∀ n ∈ ns, Word n) → ns.Nodup → al.length = ns.length → bl.length = ns.length → pieces ns al = pieces ns bl → al = bl
 | [], [], [], _, _, _, _, _ => rfl
 | n :: ns, a :: al, b :: bl, hw, hn, ha, hb, h => by
  have hw2 : ∀ n ∈ ns, Word n := fun x hx => hw x (List.mem_cons_of_mem _ hx)
  obtain ⟨hn1, hn2⟩ := List.nodup_cons.1 hn
  have hat : al.length = ns.length := by simpa using ha
  have hbt : bl.length = ns.length := by simpa using hb
  have hno : ∀ (e : Int) (es : List Int) (r : List (List Nat)), piece n e :: r = pieces ns es → False := fun e es r h2 => by
   obtain ⟨n', h3, e', h4⟩ := pieces_mem (ns := ns) (es := es) (p := piece n e) (by rw [← h2]; simp)
   have h5 : (piece n e).takeWhile (fun x => x != 94) = (piece n' e').takeWhile (fun x => x != 94) := by rw [h4]
   rw [piece_name (hw n (by simp)), piece_name (hw2 n' h3)] at h5
   exact hn1 (by rw [h5]; exact h3)
  unfold pieces at h
  by_cases a0 : a = 0
  · by_cases b0 : b = 0
    · rw [if_pos a0, if_pos b0] at h
      rw [a0, b0, pieces_inj hw2 hn2 hat hbt h]
    · rw [if_pos a0, if_neg b0] at h
      exact (hno b al _ h.symm).elim
  · by_cases b0 : b = 0
    · rw [if_neg a0, if_pos b0] at h
      exact (hno a bl _ h).elim
    · rw [if_neg a0, if_neg b0] at h
      obtain ⟨h1, h2⟩ := List.cons.inj h
      rw [piece_inj h1, pieces_inj hw2 hn2 hat hbt h2]
theorem dimGo_is : ∀ (ns : List (List Nat)) (es : List Int) (s : List Nat), (∀ n ∈ ns, Word n) → dimGo ns es s = (if s = [] then joinB (pieces ns es) else s ++ behind (pieces ns es))
 | [], es, s, _ => by cases es <;> simp [dimGo, pieces, joinB, behind]
 | n :: ns, [], s, _ => by simp [dimGo, pieces, joinB, behind]
 | n :: ns, e :: es, s, hw => by
  have ih := dimGo_is ns es
  have hw2 : ∀ n ∈ ns, Word n := fun x hx => hw x (List.mem_cons_of_mem _ hx)
  unfold dimGo pieces
  by_cases e0 : e = 0
  · rw [if_pos e0, if_pos e0]; exact ih s hw2
  · rw [if_neg e0, if_neg e0]
    by_cases s0 : s = []
    · rw [if_pos s0, if_pos s0, ih _ hw2, if_neg (piece_ne (hw n (by simp))), joinB_cons]
    · rw [if_neg s0, if_neg s0, ih _ hw2, if_neg (by simp), List.append_assoc, behind]
      rfl
theorem dimN_words : ∀ n ∈ dimN, Word n := by unfold dimN Word; decide
theorem dimN_nodup : dimN.Nodup := by decide
theorem dimT_inj {a b : List Int} (ha : a.length = 7) (hb : b.length = 7) (h : dimT a = dimT b) : a = b := by
 have hp : ∀ es, ∀ p ∈ pieces dimN es, p ≠ [] ∧ ∀ x ∈ p, x ≠ 32 := fun es p hp => by
  obtain ⟨n, h1, e, rfl⟩ := pieces_mem hp
  exact ⟨piece_ne (dimN_words n h1), piece_blank (dimN_words n h1)⟩
 have hg : ∀ es, dimGo dimN es [] = joinB (pieces dimN es) := fun es => by rw [dimGo_is _ _ _ dimN_words, if_pos rfl]
 have h49 : ∀ es, joinB (pieces dimN es) ≠ [49] := fun es he => by
  cases hc : pieces dimN es with
  | nil => rw [hc] at he; cases he
  | cons p r =>
   rw [hc, joinB_cons] at he
   obtain ⟨n, h1, e, h2⟩ := pieces_mem (ns := dimN) (es := es) (p := p) (by rw [hc]; simp)
   have hw := dimN_words n h1
   cases hn : n with
   | nil => exact hw.1 hn
   | cons x n' =>
    have hx := (hw.2 x (by rw [hn]; simp)).1
    rw [h2, hn, piece, List.cons_append, List.cons_append] at he
    have := (List.cons.inj he).1
    omega
 have key : joinB (pieces dimN a) = joinB (pieces dimN b) := by
  unfold dimT at h
  rw [hg, hg] at h
  by_cases h1 : joinB (pieces dimN a) = []
  · by_cases h2 : joinB (pieces dimN b) = []
    · rw [h1, h2]
    · rw [if_pos h1, if_neg h2] at h; exact absurd h.symm (h49 b)
  · by_cases h2 : joinB (pieces dimN b) = []
    · rw [if_neg h1, if_pos h2] at h; exact absurd h (h49 a)
    · rw [if_neg h1, if_neg h2] at h; exact h
 exact pieces_inj dimN_words dimN_nodup (by rw [ha]; rfl) (by rw [hb]; rfl) (joinB_inj (hp a) (hp b) key)
theorem len7 {ds : List Int} (h : ds.length = 7) : ∃ a b c d e f g, ds = [a, b, c, d, e, f, g] := by
 match ds, h with
 | [a, b, c, d, e, f, g], _ => exact ⟨a, b, c, d, e, f, g, rfl⟩
theorem good7 {a b c d e f g : Int} : goodD [a, b, c, d, e, f, g] = true ↔ (-200 ≤ a ∧ a ≤ 200) ∧ (-200 ≤ b ∧ b ≤ 200) ∧ (-200 ≤ c ∧ c ≤ 200) ∧ (-200 ≤ d ∧ d ≤ 200) ∧ (-200 ≤ e ∧ e ≤ 200) ∧ (-200 ≤ f ∧ f ≤ 200) ∧ (-200 ≤ g ∧ g ≤ 200) := by
 rw [goodD_iff]; simp
def Within (k : Int) (ds : List Int) : Prop := ∀ x ∈ ds, -k ≤ x ∧ x ≤ k
theorem Within.good {k : Int} {ds : List Int} (h : Within k ds) (hk : k ≤ 200) : goodD ds = true := goodD_iff.2 fun x hx => by have := h x hx; omega
theorem within7 {k a b c d e f g : Int} : Within k [a, b, c, d, e, f, g] ↔ (-k ≤ a ∧ a ≤ k) ∧ (-k ≤ b ∧ b ≤ k) ∧ (-k ≤ c ∧ c ≤ k) ∧ (-k ≤ d ∧ d ≤ k) ∧ (-k ≤ e ∧ e ≤ k) ∧ (-k ≤ f ∧ f ≤ k) ∧ (-k ≤ g ∧ g ≤ k) := by
 unfold Within; simp
theorem may_yes {ds : List Int} (h : goodD ds = true) : mayD ds = (ds, 0) := if_pos h
theorem mul_yes {a b c : List Int} {j k : Int} (ha : Within j a) (hb : Within k b) (hj : j ≤ 200) (hk : k ≤ 200) (hc : List.zipWith (· + ·) a b = c) (hw : goodD c = true) : mulD a b = (c, 0) := by
 unfold mulD; rw [if_pos ⟨ha.good hj, hb.good hk⟩, hc, may_yes hw]
theorem div_yes {a b c : List Int} {j k : Int} (ha : Within j a) (hb : Within k b) (hj : j ≤ 200) (hk : k ≤ 200) (hc : List.zipWith (· - ·) a b = c) (hw : goodD c = true) : divD a b = (c, 0) := by
 unfold divD; rw [if_pos ⟨ha.good hj, hb.good hk⟩, hc, may_yes hw]
theorem pow_yes {a c : List Int} {n : Int} (ha : goodD a = true) (hc : a.map (· * n) = c) (hw : goodD c = true) : powD a n = (c, 0) := by
 unfold powD; rw [if_pos ha, hc, may_yes hw]
theorem group_facts {x y z : List Int} (lx : x.length = 7) (ly : y.length = 7) (lz : z.length = 7) (hx : Within 29 x) (hy : Within 29 y) (hz : Within 29 z) :
 ∃ m p q s t u : List Int, m.length = 7 ∧ p.length = 7 ∧ q.length = 7 ∧ s.length = 7 ∧ t.length = 7 ∧ u.length = 7 ∧
  mulD x y = (m, 0) ∧ mulD y x = (m, 0) ∧ mulD m z = (p, 0) ∧ mulD y z = (q, 0) ∧ mulD x q = (p, 0) ∧ divD m y = (x, 0) ∧ powD x 2 = (s, 0) ∧ powD x 3 = (t, 0) ∧ powD x 5 = (u, 0) ∧ mulD s t = (u, 0) ∧ powD x 0 = (dim0, 0) := by
 obtain ⟨a0, a1, a2, a3, a4, a5, a6, rfl⟩ := len7 lx
 obtain ⟨b0, b1, b2, b3, b4, b5, b6, rfl⟩ := len7 ly
 obtain ⟨c0, c1, c2, c3, c4, c5, c6, rfl⟩ := len7 lz
 have HA := within7.1 hx
 have HB := within7.1 hy
 have HC := within7.1 hz
 have g : ∀ {d0 d1 d2 d3 d4 d5 d6 : Int}, ((-200 ≤ d0 ∧ d0 ≤ 200) ∧ (-200 ≤ d1 ∧ d1 ≤ 200) ∧ (-200 ≤ d2 ∧ d2 ≤ 200) ∧ (-200 ≤ d3 ∧ d3 ≤ 200) ∧ (-200 ≤ d4 ∧ d4 ≤ 200) ∧ (-200 ≤ d5 ∧ d5 ≤ 200) ∧ (-200 ≤ d6 ∧ d6 ≤ 200)) → goodD [d0, d1, d2, d3, d4, d5, d6] = true := good7.2
 refine ⟨[a0 + b0, a1 + b1, a2 + b2, a3 + b3, a4 + b4, a5 + b5, a6 + b6], [a0 + b0 + c0, a1 + b1 + c1, a2 + b2 + c2, a3 + b3 + c3, a4 + b4 + c4, a5 + b5 + c5, a6 + b6 + c6], [b0 + c0, b1 + c1, b2 + c2, b3 + c3, b4 + c4, b5 + c5, b6 + c6],
  [a0 * 2, a1 * 2, a2 * 2, a3 * 2, a4 * 2, a5 * 2, a6 * 2], [a0 * 3, a1 * 3, a2 * 3, a3 * 3, a4 * 3, a5 * 3, a6 * 3], [a0 * 5, a1 * 5, a2 * 5, a3 * 5, a4 * 5, a5 * 5, a6 * 5], rfl, rfl, rfl, rfl, rfl, rfl, ?_⟩
 refine ⟨mul_yes hx hy (by decide) (by decide) rfl (g (by omega)), ?_, ?_, mul_yes hy hz (by decide) (by decide) rfl (g (by omega)), ?_, ?_, pow_yes (hx.good (by decide)) rfl (g (by omega)), pow_yes (hx.good (by decide)) rfl (g (by omega)), pow_yes (hx.good (by decide)) rfl (g (by omega)), ?_, ?_⟩
 · exact mul_yes hy hx (by decide) (by decide) (by simp only [List.zipWith_cons_cons, List.zipWith_nil_left, List.cons.injEq, and_true]; omega) (g (by omega))
 · exact mul_yes (j := 58) (within7.2 (by omega)) hz (by decide) (by decide) rfl (g (by omega))
 · exact mul_yes (k := 58) hx (within7.2 (by omega)) (by decide) (by decide) (by simp only [List.zipWith_cons_cons, List.zipWith_nil_left, List.cons.injEq, and_true]; omega) (g (by omega))
 · exact div_yes (j := 58) (within7.2 (by omega)) hy (by decide) (by decide) (by simp only [List.zipWith_cons_cons, List.zipWith_nil_left, List.cons.injEq, and_true]; omega) (g (by omega))
 · exact mul_yes (j := 58) (k := 87) (within7.2 (by omega)) (within7.2 (by omega)) (by decide) (by decide) (by simp only [List.zipWith_cons_cons, List.zipWith_nil_left, List.cons.injEq, and_true]; omega) (g (by omega))
 · exact pow_yes (hx.good (by decide)) (by simp [dim0]) (by decide)
theorem one_facts {a : List Int} (la : a.length = 7) (h : goodD a = true) : ∃ t : List Int, t.length = 7 ∧ mulD a dim0 = (a, 0) ∧ divD a dim0 = (a, 0) ∧ divD a a = (dim0, 0) ∧ powD a 1 = (a, 0) ∧ powD a (-1) = (t, 0) ∧ divD dim0 a = (t, 0) := by
 obtain ⟨a0, a1, a2, a3, a4, a5, a6, rfl⟩ := len7 la
 have HA := good7.1 h
 have hw : Within 200 [a0, a1, a2, a3, a4, a5, a6] := within7.2 (by omega)
 have h0 : Within 200 dim0 := within7.2 (by omega)
 refine ⟨[-a0, -a1, -a2, -a3, -a4, -a5, -a6], rfl, ?_, ?_, ?_, ?_, ?_, ?_⟩
 · exact mul_yes hw h0 (by decide) (by decide) (by simp [dim0]) h
 · exact div_yes hw h0 (by decide) (by decide) (by simp [dim0]) h
 · exact div_yes hw hw (by decide) (by decide) (by simp [dim0]) (by decide)
 · exact pow_yes h (by simp) h
 · exact pow_yes h (by simp) (good7.2 (by omega))
 · exact div_yes h0 hw (by decide) (by decide) (by simp [dim0]) (good7.2 (by omega))
theorem one_no {a : List Int} (h : goodD a = false) (n : Int) (b : List Int) : mulD a b = (dim0, 1) ∧ powD a n = (dim0, 1) := by
 unfold mulD powD
 rw [if_neg (by rw [h]; simp), if_neg (by rw [h]; simp)]
 exact ⟨rfl, rfl⟩
theorem pow_clamp {x n : Int} (hx : -200 ≤ x ∧ x ≤ 200) : (goodE (x * max (-201) (min n 201)) = goodE (x * n)) ∧ (goodE (x * n) = true → x * max (-201) (min n 201) = x * n) := by
 rcases Int.lt_trichotomy x 0 with h | h | h
 · by_cases h1 : n < -201
   · have e : max (-201) (min n 201) = -201 := by omega
     have hb : ¬ (x * n ≤ 200) := by
      have := Int.mul_le_mul_of_nonpos_left (show x ≤ 0 by omega) (show n ≤ -202 by omega)
      omega
     have h2 : goodE (x * n) = false := by unfold goodE; rw [decide_eq_false hb, Bool.and_false]
     have h3 : goodE (x * -201) = false := by unfold goodE; rw [decide_eq_false (show ¬ x * -201 ≤ 200 by omega), Bool.and_false]
     rw [e, h2, h3]; exact ⟨rfl, fun h => by cases h⟩
   · by_cases h2 : 201 < n
     · have e : max (-201) (min n 201) = 201 := by omega
       have hb : ¬ (-200 ≤ x * n) := by
        have := Int.mul_le_mul_of_nonpos_left (show x ≤ 0 by omega) (show 202 ≤ n by omega)
        omega
       have h3 : goodE (x * n) = false := by unfold goodE; rw [decide_eq_false hb, Bool.false_and]
       have h4 : goodE (x * 201) = false := by unfold goodE; rw [decide_eq_false (show ¬ -200 ≤ x * 201 by omega), Bool.false_and]
       rw [e, h3, h4]; exact ⟨rfl, fun h => by cases h⟩
     · have e : max (-201) (min n 201) = n := by omega
       rw [e]; exact ⟨rfl, fun _ => rfl⟩
 · subst h; simp
 · by_cases h1 : n < -201
   · have e : max (-201) (min n 201) = -201 := by omega
     have hb : ¬ (-200 ≤ x * n) := by
      have := Int.mul_le_mul_of_nonneg_left (show n ≤ -202 by omega) (show 0 ≤ x by omega)
      omega
     have h2 : goodE (x * n) = false := by unfold goodE; rw [decide_eq_false hb, Bool.false_and]
     have h3 : goodE (x * -201) = false := by unfold goodE; rw [decide_eq_false (show ¬ -200 ≤ x * -201 by omega), Bool.false_and]
     rw [e, h2, h3]; exact ⟨rfl, fun h => by cases h⟩
   · by_cases h2 : 201 < n
     · have e : max (-201) (min n 201) = 201 := by omega
       have hb : ¬ (x * n ≤ 200) := by
        have := Int.mul_le_mul_of_nonneg_left (show 202 ≤ n by omega) (show 0 ≤ x by omega)
        omega
       have h3 : goodE (x * n) = false := by unfold goodE; rw [decide_eq_false hb, Bool.and_false]
       have h4 : goodE (x * 201) = false := by unfold goodE; rw [decide_eq_false (show ¬ x * 201 ≤ 200 by omega), Bool.and_false]
       rw [e, h3, h4]; exact ⟨rfl, fun h => by cases h⟩
     · have e : max (-201) (min n 201) = n := by omega
       rw [e]; exact ⟨rfl, fun _ => rfl⟩
end Go.Proofs.YtbljphnfijiciaaDoor

/- Values of many cells: a block that holds such a value, whole or as a part; what a load finds, what a store leaves. Of any program; no condition. -/
namespace Go.Proofs.YtbljphnfijiciaaDoor
open Go.RowKit Limb
set_option linter.unusedVariables false
def RowA (w : World) (g : Nat) (T : TypeId) (V : Array Value) : Prop := w.heap[g]? = some (.cells V T (0, 0))
def InV (w : World) (g o : Nat) (V : Array Value) : Prop := ∀ j v, V[j]? = some v → w.cell? ⟨g, o + j, none⟩ = some v
section
variable {w w' : World} {g o : Nat} {T : TypeId} {V V' : Array Value}
theorem RowA.lt (h : RowA w g T V) : g < w.heap.size := by
 rcases Nat.lt_or_ge g w.heap.size with hlt | hge
 · exact hlt
 · unfold RowA at h; rw [Array.getElem?_eq_none hge] at h; cases h
theorem RowA.below (h : RowA w g T V) (hb : Below w.heap.size w w') : RowA w' g T V := (hb.block g h.lt).trans h
theorem RowA.drew (h : RowA w g T V) : RowA w.drew g T V := h
theorem RowA.cell (h : RowA w g T V) {k : Nat} {v : Value} (hk : V[k]? = some v) : w.cell? ⟨g, k, none⟩ = some v := by
 unfold RowA at h
 simp only [World.cell?, h]
 exact hk
theorem RowA.free (h : RowA w g T V) (k : Nat) : w.frozen? ⟨g, k, none⟩ = false := by unfold RowA at h; simp [World.frozen?, h]
theorem RowA.set (h : RowA w g T V) (k : Nat) (v : Value) : RowA (w.setCell ⟨g, k, none⟩ v) g T (V.setIfInBounds k v) := by
 unfold RowA at h ⊢
 simp [World.setCell, Array.getElem?_modify, h]
theorem RowA.far (h : RowA w g T V) {g' : Nat} (hne : g' ≠ g) (k : Nat) (v : Value) : RowA (w.setCell ⟨g', k, none⟩ v) g T V := by
 unfold RowA at h ⊢
 simp only [World.setCell, Array.getElem?_modify]
 rw [if_neg hne]
 exact h
theorem RowA.fill (h : RowA w g T V) : RowA (w.setRow g V') g T V' := setRow_heap w g V V' T (0, 0) h
theorem RowA.farRow (h : RowA w g T V) {g' : Nat} (hne : g' ≠ g) : RowA (w.setRow g' V') g T V := by
 unfold RowA at h ⊢
 rw [setRow_other w g' g V' (Ne.symm hne)]
 exact h
theorem RowA.inV (h : RowA w g T V) : InV w g 0 V := fun j v hv => by rw [Nat.zero_add]; exact h.cell hv
theorem RowA.part (h : RowA w g T V) (hp : ∀ j v, V'[j]? = some v → V[o + j]? = some v) : InV w g o V' := fun j v hv => h.cell (hp j v hv)
theorem InV.below (h : InV w g o V) (hg : g < w.heap.size) (hb : Below w.heap.size w w') : InV w' g o V := fun j v hv => (hb.cell (p := ⟨g, o + j, none⟩) hg).trans (h j v hv)
theorem RowA.stores {P : Program} (h : RowA w g T V) (hn : V.size = V'.size) (h1 : ∀ v ∈ V', v.oneCell' = true) : (storeCells ⟨g, 0, none⟩ V'.toList 0).run P w = .ok () (w.setRow g V') := by
 have := run_storeCells_from (P := P) g T V'.toList 0 V w h (by simp; omega) (fun v hv => h1 v (by simpa using hv))
 simpa using this
end
theorem rowA_new (w : World) (T : TypeId) (V : Array Value) : RowA (w.alloc (.cells V T)) w.heap.size T V := heap_alloc_new _ _
theorem below_fillRow {B : Nat} {w w' : World} (h : Below B w w') {g : Nat} (hg : B ≤ g) (V : Array Value) : Below B w (w'.setRow g V) :=
 h.trans ⟨rfl, rfl, rfl, by simp, fun k hk => setRow_other w' g k V (by omega)⟩
def ints (K : IntKind) (xs : List Int) : Array Value := (xs.map (Value.int K)).toArray
theorem size_ints (K : IntKind) (xs : List Int) : (ints K xs).size = xs.length := by simp [ints]
theorem ints_get {K : IntKind} {xs : List Int} {i : Nat} (h : i < xs.length) : (ints K xs)[i]? = some (.int K (xs.getD i 0)) := by
 simp [ints, List.getD_eq_getElem?_getD, h]
theorem ints_one {K : IntKind} {xs : List Int} : ∀ v ∈ ints K xs, v.oneCell' = true := by
 intro v hv
 simp only [ints, List.mem_toArray, List.mem_map] at hv
 obtain ⟨x, _, rfl⟩ := hv
 rfl
theorem ints_set {K : IntKind} {xs : List Int} (k : Nat) (x : Int) : (ints K xs).setIfInBounds k (.int K x) = ints K (xs.set k x) := by
 simp [ints, List.map_set]
theorem RowA.int {w : World} {g : Nat} {T : TypeId} {K : IntKind} {xs : List Int} (h : RowA w g T (ints K xs)) {i : Nat} (hi : i < xs.length) : w.cell? ⟨g, i, none⟩ = some (.int K (xs.getD i 0)) := h.cell (ints_get hi)
theorem RowA.setInt {w : World} {g : Nat} {T : TypeId} {K : IntKind} {xs : List Int} (h : RowA w g T (ints K xs)) (k : Nat) (x : Int) : RowA (w.setCell ⟨g, k, none⟩ (.int K x)) g T (ints K (xs.set k x)) := by
 rw [← ints_set]; exact h.set k _
theorem run_index_ints {P : Program} {t e : TypeId} {n : Nat} {K : IntKind} (hu : P.underlying t = some (.array n e)) (hue : P.underlying e = some (.int K)) (hce : (P.info? e).map (·.size) = some 1) {xs : List Int} (hx : xs.length = n) (i : Nat) (hi : i < n) (k : IntKind) (W : World) :
 (Instr.index t (.agg (ints K xs)) (.int k (i : Int))).run P W = .ok (.int K (xs.getD i 0)) W := by
 have hin : (0 : Int) ≤ i ∧ (i : Int) < n := ⟨by omega, by omega⟩
 have hp : (part e (ints K xs) (i * 1)).run P W = .ok (.int K (xs.getD i 0)) W := by
  have h2 := ints_get (K := K) (xs := xs) (i := i) (by omega)
  simp only [part, isAgg, Sem.run_bind, run_underlying hue, Result.andThen_ok, Nat.mul_one]
  simp [h2]
 cases hq : P.info? e with
 | none => simp [hq] at hce
 | some q =>
  have hs : q.size = 1 := by simpa [hq] using hce
  rw [Nat.mul_one] at hp
  simp [Instr.index, asIntOf, run_underlying hu, hi, sizeOf, typeInfo, hq, hs]
  simpa using hp
section
variable {P : Program} {ops : Array Oper} {rest : List Oper} {o : Oper} {a : Act} {w : World} {K : Act → World → Prop} {Q : Exit → Act → World → Prop}
def Many (P : Program) (ty : TypeId) (n : Nat) : Prop := (P.info? ty).map (·.size) = some n ∧ ∃ d, P.underlying ty = some d ∧ d.isRow = true
theorem run_loadV {ty : TypeId} {g p : Nat} {V : Array Value} (hc : InV w g p V) (hT : Many P ty V.size) : (Instr.loadAt ty (.pointer (some ⟨g, p, none⟩))).run P w = .ok (.agg V) w := by
 obtain ⟨h1, d, h2, h3⟩ := hT
 have := run_loadAt_mid (P := P) w g p ty V.toList d (fun j v hv => hc j v (by simpa using hv)) h2 h3 (by simpa using h1)
 simpa using this
theorem wp_loadV (ty : TypeId) (x : Operand) (ho : o.op = .load ty x) (g p : Nat) (hx : a.eval x = .pointer (some ⟨g, p, none⟩)) (V : Array Value) (hc : Hid (InV w g p V)) (hT : Hid (Many P ty V.size))
 (h : K (a.put o.dst (.agg V)) w) : o.wp P a w K Q := by
 unfold Oper.wp execOp
 simp only [ho, hx, run_loadV hc.out hT.out, Sem.run_bind, Sem.run_pure, Result.andThen_ok]
 exact h
theorem wpList_loadV (hg : Region.wanted o (yielded ops a.tmps) = true) (ty : TypeId) (x : Operand) (ho : o.op = .load ty x) (g p : Nat) (hx : a.eval x = .pointer (some ⟨g, p, none⟩)) (V : Array Value) (hc : Hid (InV w g p V)) (hT : Hid (Many P ty V.size))
 (h : wpList P ops Q rest (a.put o.dst (.agg V)) w) : wpList P ops Q (o :: rest) a w :=
 BigFrame.wpList_want hg fun _ hK => wp_loadV ty x ho g p hx V hc hT (hK _ _ h)
theorem wp_buildV (ty : TypeId) (parts : Array (Nat × Operand)) (ho : o.op = .build ty parts) (ps : List (Nat × Value)) (hp : parts.toList.map (fun p => (p.1, a.eval p.2)) = ps) (V : Array Value) (hr : Hid (∀ W, (Instr.build ty ps.toArray).run P W = .ok (.agg V) W))
 (h : K (a.put o.dst (.agg V)) w) : o.wp P a w K Q := by
 have e : (parts.map fun (i, x) => (i, a.eval x)) = ps.toArray := by
  rw [← hp]
  apply Array.ext'
  simp
 unfold Oper.wp execOp
 simp only [ho, e, hr.out, Sem.run_bind, Sem.run_pure, Result.andThen_ok]
 exact h
theorem wpList_buildV (hg : Region.wanted o (yielded ops a.tmps) = true) (ty : TypeId) (parts : Array (Nat × Operand)) (ho : o.op = .build ty parts) (ps : List (Nat × Value)) (hp : parts.toList.map (fun p => (p.1, a.eval p.2)) = ps) (V : Array Value) (hr : Hid (∀ W, (Instr.build ty ps.toArray).run P W = .ok (.agg V) W))
 (h : wpList P ops Q rest (a.put o.dst (.agg V)) w) : wpList P ops Q (o :: rest) a w :=
 BigFrame.wpList_want hg fun _ hK => wp_buildV ty parts ho ps hp V hr (hK _ _ h)
theorem wp_storeV (ty : TypeId) (x y : Operand) (ho : o.op = .store ty x y) (g : Nat) (hx : a.eval x = .pointer (some ⟨g, 0, none⟩)) (V : Array Value) (hy : a.eval y = .agg V) (T : TypeId) (V0 : Array Value) (hc : Hid (RowA w g T V0)) (hT : Hid (Many P ty V.size ∧ V0.size = V.size ∧ ∀ v ∈ V, v.oneCell' = true))
 (h : K (a.put o.dst undef) (w.setRow g V)) : o.wp P a w K Q :=
 wp_store_row ty x y ho g V hx hy T V0 hc.out hT.out.1.1 hT.out.2.1 (Array.all_eq_true_iff_forall_mem.2 hT.out.2.2) h
theorem wpList_storeV (hg : Region.wanted o (yielded ops a.tmps) = true) (ty : TypeId) (x y : Operand) (ho : o.op = .store ty x y) (g : Nat) (hx : a.eval x = .pointer (some ⟨g, 0, none⟩)) (V : Array Value) (hy : a.eval y = .agg V) (T : TypeId) (V0 : Array Value) (hc : Hid (RowA w g T V0)) (hT : Hid (Many P ty V.size ∧ V0.size = V.size ∧ ∀ v ∈ V, v.oneCell' = true))
 (h : wpList P ops Q rest (a.put o.dst undef) (w.setRow g V)) : wpList P ops Q (o :: rest) a w :=
 BigFrame.wpList_want hg fun _ hK => wp_storeV ty x y ho g hx V hy T V0 hc hT (hK _ _ h)
theorem wpList_storeNew (hg : Region.wanted o (yielded ops a.tmps) = true) (ty : TypeId) (x y : Operand) (ho : o.op = .store ty x y) (V V0 : Array Value) (T : TypeId) (hx : a.eval x = .pointer (some ⟨w.heap.size, 0, none⟩)) (hy : a.eval y = .agg V) (hT : Hid (Many P ty V.size ∧ V0.size = V.size ∧ ∀ v ∈ V, v.oneCell' = true))
 (h : wpList P ops Q rest (a.put o.dst undef) (w.alloc (.cells V T))) : wpList P ops Q (o :: rest) a (w.alloc (.cells V0 T)) := by
 refine wpList_storeV hg ty x y ho w.heap.size hx V hy T V0 (rowA_new w T V0) hT ?_
 rw [World.setRow_alloc_new]
 exact h
end
end Go.Proofs.YtbljphnfijiciaaDoor

/- Rows of the call's own, of elements of as many cells as one likes: append of one element, what stays. Of any program; no condition. -/
namespace Go.Proofs.YtbljphnfijiciaaDoor
open Go.RowKit Limb
set_option linter.unusedVariables false
def OwnR (w : World) (B : Nat) (e : TypeId) (sz : Nat) (A : Option Addr) (n c : Nat) (xs : List Value) : Prop := w.ownsRow B e sz (.slice A n c) n xs
def Elem (P : Program) (t e : TypeId) (sz : Nat) : Prop := ∃ i z, P.underlying t = some (.slice e) ∧ P.info? e = some i ∧ i.zero = some z ∧ i.size = sz ∧ z.cells.size = sz ∧ 0 < sz ∧ i.bytes ≤ 1000
theorem elem_of {P : Program} {t e : TypeId} {sz b : Nat} {v : Value} (h : P.underlying t = some (.slice e)) (hi : (P.info? e).map (fun i => (i.zero, i.size, i.bytes)) = some (some v, sz, b)) (hz : v.cells.size = sz) (h0 : 0 < sz) (hb : b ≤ 1000) : Elem P t e sz := by
 cases hq : P.info? e with
 | none => simp [hq] at hi
 | some i =>
  simp [hq] at hi
  exact ⟨i, v, h, hq, hi.1, hi.2.1, hz, h0, by omega⟩
section
variable {w w' : World} {B : Nat} {e : TypeId} {sz n c : Nat} {A : Option Addr} {xs : List Value}
theorem OwnR.nil (w : World) (B : Nat) (e : TypeId) (sz : Nat) : OwnR w B e sz none 0 0 [] := World.ownsRow_nil w B e sz
theorem OwnR.len (h : OwnR w B e sz A n c xs) : xs.length = n * sz := h.1
theorem OwnR.lt (h : OwnR w B e sz A n c xs) : ∀ k, Value.ownBlock (.slice A n c) = some k → B ≤ k ∧ k < w.heap.size := World.ownsRow.lt h
theorem shape_row {v : Value} (h : w.ownsRow B e sz v n xs) : ∃ A c, v = .slice A n c ∧ OwnR w B e sz A n c xs := by
 rcases h.2 with ⟨rfl, rfl⟩ | ⟨g, cap, cur, rfl, _⟩
 · exact ⟨none, 0, rfl, h⟩
 · exact ⟨some ⟨g, 0, none⟩, cap, rfl, h⟩
theorem OwnR.cells (h : OwnR w B e sz A n c xs) (hn : 0 < n) : ∃ g, A = some ⟨g, 0, none⟩ ∧ B ≤ g ∧ g < w.heap.size ∧ n ≤ c ∧ c ≤ maxLen ∧ ∀ j u, xs[j]? = some u → w.cell? ⟨g, j, none⟩ = some u := by
 rcases h.2 with ⟨hv, h0⟩ | ⟨g, cap, cur, hv, hB, hg, hnc, hcm, hcs, ht⟩
 · omega
 · injection hv with h1 h2 h3
   subst h1; subst h3
   refine ⟨g, rfl, hB, (Array.getElem?_eq_some_iff.1 hg).1, hnc, hcm, fun j u hu => ?_⟩
   rw [cell_of_row w g j cur e (0, 0) hg]
   rw [← ht] at hu
   have hj : j < n * sz := by
    rcases Nat.lt_or_ge j (n * sz) with h1 | h1
    · exact h1
    · rw [List.getElem?_eq_none (by rw [List.length_take]; omega)] at hu; cases hu
   rw [List.getElem?_take_of_lt hj] at hu
   simpa using hu
theorem OwnR.below (h : OwnR w B e sz A n c xs) (hb : Below w.heap.size w w') : OwnR w' B e sz A n c xs := by
 refine ⟨h.1, ?_⟩
 rcases h.2 with h1 | ⟨g, cap, cur, hv, hB, hg, r⟩
 · exact .inl h1
 · exact .inr ⟨g, cap, cur, hv, hB, (hb.block g (Array.getElem?_eq_some_iff.1 hg).1).trans hg, r⟩
theorem OwnR.mono {C : Nat} (h : OwnR w B e sz A n c xs) (hC : C ≤ B) : OwnR w C e sz A n c xs := by
 refine ⟨h.1, ?_⟩
 rcases h.2 with h1 | ⟨g, cap, cur, hv, hB, r⟩
 · exact .inl h1
 · exact .inr ⟨g, cap, cur, hv, Nat.le_trans hC hB, r⟩
theorem RowA.grown {g : Nat} {T : TypeId} {V : Array Value} {o : Option Nat} (h : RowA w g T V) (hg : w.grownBy w' o) (hne : o ≠ some g) : RowA w' g T V := (hg.block g h.lt (fun e => hne e.symm)).trans h
theorem below_append {C : Nat} {w0 : World} (hb : Below C w0 w) (hC : C ≤ B) (hB : B ≤ w.heap.size) (h : OwnR w B e sz A n c xs) (hg : w.grownBy w' (Value.ownBlock (.slice A n c))) : Below C w0 w' :=
 hb.grown hg (by omega) (fun k hk => by have := (h.lt k hk).1; omega)
end
section
variable {P : Program} {ops : Array Oper} {rest : List Oper} {o : Oper} {a : Act} {w : World} {K : Act → World → Prop} {Q : Exit → Act → World → Prop}
theorem wp_append_one (s x : Operand) (t : TypeId) (ho : o.op = .call { callee := .builtin .append, args := #[s, x], argTypes := #[t, t] })
 (B : Nat) (e : TypeId) (sz : Nat) (ht : Elem P t e sz) (A : Option Addr) (n c : Nat) (xs : List Value) (hs : a.eval s = .slice A n c) (hown : Hid (OwnR w B e sz A n c xs))
 (g : Nat) (hx : a.eval x = .slice (some ⟨g, 0, none⟩) 1 1) (T : TypeId) (V : Array Value) (hy : Hid (RowA w g T V ∧ V.size = sz ∧ ∀ v ∈ V, v.oneCell' = true)) (hb : Hid (n ≤ 1000000 ∧ B ≤ w.heap.size))
 (h : ∀ A2 c2 w', Hid (OwnR w' B e sz A2 (n + 1) c2 (xs ++ V.toList)) → Hid (w.grownBy w' (Value.ownBlock (.slice A n c))) → K (a.put o.dst (.slice A2 (n + 1) c2)) w') : o.wp P a w K Q := by
 obtain ⟨i, z, h1, h2, h3, h4, h5, h6, h7⟩ := ht
 obtain ⟨y1, y2, y3⟩ := hy.out
 obtain ⟨b1, b2⟩ := hb.out
 refine wp_append_own w s x t ho B e i z sz i.bytes h1 h2 h3 h4 rfl h5 h6 (.slice A n c) n xs hs hown.out ⟨g, 0, none⟩ 1 1 V.toList hx (by simp [y2]) ?_ (fun u hu => y3 u (by simpa using hu)) (by unfold maxLen; omega) ?_ b2 ?_
 · intro j u hu
   rw [Addr.add_mid, Nat.zero_add]
   exact y1.cell (by simpa using hu)
 · exact Nat.le_trans (Nat.mul_le_mul (show n + 1 ≤ 1000001 by omega) h7) (by decide)
 · intro v' w' hown' hg _
   obtain ⟨A2, c2, rfl, how⟩ := shape_row hown'
   exact h A2 c2 w' how hg
theorem wpList_append_one (hgd : o.guard = none) (s x : Operand) (t : TypeId) (ho : o.op = .call { callee := .builtin .append, args := #[s, x], argTypes := #[t, t] })
 (B : Nat) (e : TypeId) (sz : Nat) (ht : Elem P t e sz) (A : Option Addr) (n c : Nat) (xs : List Value) (hs : a.eval s = .slice A n c) (hown : Hid (OwnR w B e sz A n c xs))
 (g : Nat) (hx : a.eval x = .slice (some ⟨g, 0, none⟩) 1 1) (T : TypeId) (V : Array Value) (hy : Hid (RowA w g T V ∧ V.size = sz ∧ ∀ v ∈ V, v.oneCell' = true)) (hb : Hid (n ≤ 1000000 ∧ B ≤ w.heap.size))
 (h : ∀ A2 c2 w', Hid (OwnR w' B e sz A2 (n + 1) c2 (xs ++ V.toList)) → Hid (w.grownBy w' (Value.ownBlock (.slice A n c))) → wpList P ops Q rest (a.put o.dst (.slice A2 (n + 1) c2)) w') : wpList P ops Q (o :: rest) a w :=
 wpList_plain hgd fun _ hK => wp_append_one s x t ho B e sz ht A n c xs hs hown g hx T V hy hb fun A2 c2 w' h1 h2 => hK _ _ (h A2 c2 w' h1 h2)
end
end Go.Proofs.YtbljphnfijiciaaDoor
