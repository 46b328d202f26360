/- Part 3 of the texts that the statements of this seat lean on: mathematics, and what functions answer, as contracts over memory; each part says its own conditions. -/
import Derived.Test.YtjpoolddgocbbaaGreatDoorM2
import Derived.Laws.IdiomStrings
import Derived.Deep.RegionLaw
import Derived.Deep.RegionWith
import Derived.RegionTactic
import Derived.BigRegion
import Derived.ChangeAlike
/- Rows of bytes that the call itself made: what they read as, stores, growth by append, the text of one. No condition. -/
namespace Go.Proofs.YtjpoolddgocbbaaGreatDoor
open Go.RowKit Limb
set_option linter.unusedVariables false

theorem u8_info : (Tryz.prog.info? 5).map (fun i => (i.zero, i.size, i.bytes)) = some (some (.int .u8 0), 1, 1) := by kernel_rfl
theorem u8_size : (Tryz.prog.info? 5).map (·.size) = some 1 := by kernel_rfl

/-- A byte as a value. -/
def byV (x : Nat) : Value := .int .u8 (x : Int)

theorem oneCell_u8 (xs : List Nat) : ∀ v ∈ xs.map byV, v.oneCell' = true := by
  intro v hv
  obtain ⟨x, _, rfl⟩ := List.mem_map.1 hv
  rfl

theorem map_u8_get {xs : List Nat} {j : Nat} {v : Value} (h : (xs.map byV)[j]? = some v) : j < xs.length ∧ v = byV (lim xs j) := by
  rw [List.getElem?_map] at h
  by_cases hj : j < xs.length
  · rw [List.getElem?_eq_getElem hj] at h
    simp at h
    exact ⟨hj, by rw [← h]; simp [lim, List.getD_eq_getElem?_getD, List.getElem?_eq_getElem hj]⟩
  · rw [List.getElem?_eq_none (by omega)] at h; simp at h

/-- The slice of bytes at A reads as xs. -/
def IsB (w : World) (A : Option Addr) (n : Nat) (xs : List Nat) : Prop :=
  xs.length = n ∧ Bytes xs ∧ (0 < n → ∃ b o, A = some ⟨b, o, none⟩ ∧ b < w.heap.size ∧ ∀ j, j < n → w.cell? ⟨b, o + j, none⟩ = some (.int .u8 ((lim xs j : Nat) : Int)))

theorem IsB.below {w w' : World} {A : Option Addr} {n : Nat} {xs : List Nat} (h : IsB w A n xs) (hb : Below w.heap.size w w') : IsB w' A n xs := by
  refine ⟨h.1, h.2.1, fun hn => ?_⟩
  obtain ⟨b, o, e, hlt, hc⟩ := h.2.2 hn
  exact ⟨b, o, e, Nat.lt_of_lt_of_le hlt hb.size, fun j hj => (hb.cell (p := ⟨b, o + j, none⟩) hlt).trans (hc j hj)⟩

/-- A row of bytes that the call itself made. -/
def OwnB (w : World) (B : Nat) (A : Option Addr) (n c : Nat) (zs : List Nat) : Prop :=
  w.ownsRow B 5 1 (.slice A n c) n (zs.map byV) ∧ Bytes zs

section
variable {w w' : World} {B B' C : Nat} {A : Option Addr} {n c : Nat} {zs : List Nat}

theorem OwnB.len (h : OwnB w B A n c zs) : zs.length = n := by
  have := h.1.1; simpa using this
theorem OwnB.bytes (h : OwnB w B A n c zs) : Bytes zs := h.2
theorem OwnB.caps (h : OwnB w B A n c zs) : n ≤ c ∧ c ≤ maxLen := by
  rcases h.1.2 with ⟨hv, h0⟩ | ⟨g, cap, cur, hv, hg, hh, h1, h2, _⟩
  · injection hv with _ _ hc; subst hc; subst h0; exact ⟨Nat.le_refl _, Nat.zero_le _⟩
  · injection hv with _ _ hc; subst hc; exact ⟨h1, h2⟩
theorem OwnB.nil (w : World) (B : Nat) : OwnB w B none 0 0 [] := ⟨World.ownsRow_nil _ _ _ _, bytes_nil⟩
theorem OwnB.addr (h : OwnB w B A n c zs) (hn : 0 < n) : ∃ g, A = some ⟨g, 0, none⟩ ∧ B ≤ g ∧ g < w.heap.size := by
  rcases h.1.2 with ⟨_, h0⟩ | ⟨g, cap, cur, hv, hg, hh, _⟩
  · omega
  · injection hv with hA
    refine ⟨g, hA, hg, ?_⟩
    rcases Nat.lt_or_ge g w.heap.size with hlt | hge
    · exact hlt
    · rw [Array.getElem?_eq_none hge] at hh; cases hh
theorem OwnB.cell {g : Nat} (h : OwnB w B (some ⟨g, 0, none⟩) n c zs) {k : Nat} (hk : k < n) : w.cell? ⟨g, k, none⟩ = some (.int .u8 ((lim zs k : Nat) : Int)) := by
  have hl := h.len
  rw [h.1.cellAt k (by omega), List.getElem?_map, List.getElem?_eq_getElem (by omega)]
  simp [byV, lim, List.getD_eq_getElem?_getD, List.getElem?_eq_getElem (show k < zs.length by omega)]
theorem OwnB.set {g : Nat} (h : OwnB w B (some ⟨g, 0, none⟩) n c zs) (k : Nat) {v : Nat} (hv : v < 256) :
    OwnB (w.setCell ⟨g, k, none⟩ (.int .u8 ((v : Nat) : Int))) B (some ⟨g, 0, none⟩) n c (zs.set k v) := by
  have := (h.1.stored k (byV v)).1
  rw [← List.map_set] at this
  exact ⟨this, bytes_set h.2 k v hv⟩
theorem OwnB.below (h : OwnB w B A n c zs) (hb : Below C w w') (hC : w.heap.size ≤ C) : OwnB w' B A n c zs := by
  refine ⟨⟨h.1.1, ?_⟩, h.2⟩
  rcases h.1.2 with h2 | ⟨g, cap, cur, hv, hg, hh, r⟩
  · exact .inl h2
  · refine .inr ⟨g, cap, cur, hv, hg, ?_, r⟩
    have hlt : g < w.heap.size := by
      rcases Nat.lt_or_ge g w.heap.size with hlt | hge
      · exact hlt
      · rw [Array.getElem?_eq_none hge] at hh; cases hh
    rw [hb.block g (by omega)]
    exact hh
theorem OwnB.isB (h : OwnB w B A n c zs) : IsB w A n zs := by
  refine ⟨h.len, h.2, fun hn => ?_⟩
  obtain ⟨g, rfl, hg, hl⟩ := h.addr hn
  exact ⟨g, 0, rfl, hl, fun j hj => by rw [Nat.zero_add]; exact h.cell hj⟩
theorem OwnB.mono (h : OwnB w B A n c zs) (hB : B' ≤ B) : OwnB w B' A n c zs := by
  refine ⟨⟨h.1.1, ?_⟩, h.2⟩
  rcases h.1.2 with h2 | ⟨g, cap, cur, hv, hg, r⟩
  · exact .inl h2
  · exact .inr ⟨g, cap, cur, hv, Nat.le_trans hB hg, r⟩
theorem OwnB.row (h : OwnB w B A n c zs) : w.ownsRow B 5 1 (.slice A n c) n (zs.map byV) := h.1
theorem OwnB.alloc (h : OwnB w B A n c zs) (o : Obj) : OwnB (w.alloc o) B A n c zs := ⟨h.1.alloc o, h.2⟩
end

theorem shape_ownB {w : World} {B : Nat} {v : Value} {n : Nat} {zs : List Nat} (h : w.ownsRow B 5 1 v n (zs.map byV)) (hs : Bytes zs) : ∃ A c, v = .slice A n c ∧ OwnB w B A n c zs := by
  rcases h.2 with ⟨rfl, rfl⟩ | ⟨g, cap, cur, rfl, hg, r⟩
  · exact ⟨none, 0, rfl, h, hs⟩
  · exact ⟨_, cap, rfl, h, hs⟩

/-- What an append to a row of bytes of the call's own leaves of what was there before the call. -/
theorem below_grownB {w0 w w' : World} {A : Option Addr} {n c : Nat} {zs : List Nat} {o : Obj} (hb : Below w0.heap.size w0 w) (how : OwnB w w0.heap.size A n c zs) (hg : (w.alloc o).grownBy w' (Value.ownBlock (.slice A n c))) : Below w0.heap.size w0 w' :=
  (hb.alloc hb.size o).grown hg (by have := hb.size; simp; omega) (fun k hk => (how.1.lt k hk).1)

/-- append of one byte to a row of the call's own, nil too: the literal of one byte lies in a new block. -/
theorem wpList_append_byte {w : World} {ops : Array Oper} {rest : List Oper} {o : Oper} {a : Act} {Q : Exit → Act → World → Prop} (hgd : o.guard = none) (s x : Operand)
    (ho : o.op = .call { callee := .builtin .append, args := #[s, x], argTypes := #[66, 66] })
    (base : Nat) (v : Value) (n : Nat) (xs : List Nat) (hs : a.eval s = v) (hown : Hid (w.ownsRow base 5 1 v n (xs.map byV)))
    (g : Nat) (hx : a.eval x = .slice (some ⟨g, 0, none⟩) 1 1) (y : Nat) (hy : Hid (w.cell? ⟨g, 0, none⟩ = some (.int .u8 (y : Int)) ∧ y < 256)) (hb : Hid (n ≤ 1000000000 ∧ base ≤ w.heap.size ∧ Bytes xs))
    (h : ∀ A2 c2 w', Hid (OwnB w' base A2 (n + 1) c2 (xs ++ [y])) → Hid (w.grownBy w' v.ownBlock) → wpList Tryz.prog ops Q rest (a.put o.dst (.slice A2 (n + 1) c2)) w') : wpList Tryz.prog ops Q (o :: rest) a w := by
  obtain ⟨i0, hi, hz0, hz1, hz2⟩ := info_parts u8_info
  obtain ⟨h1, h3, h4⟩ := hb.out
  refine wpList_append_read hgd s x 66 ho base 5 i0 (.int .u8 0) 1 Tryz.underlying66 hi hz0 hz1 hz2 rfl v n (xs.map byV) hs hown.out (some ⟨g, 0, none⟩) 1 1 ([y].map byV) hx rfl ?_ (oneCell_u8 [y]) (by unfold maxLen; omega) (by omega) h3 ?_
  · intro _
    refine ⟨_, rfl, fun j u hu => ?_⟩
    obtain ⟨hj, rfl⟩ := map_u8_get hu
    obtain rfl : j = 0 := by simpa using hj
    have e : (⟨g, 0, none⟩ : Addr).add 0 = ⟨g, 0, none⟩ := by unfold Addr.add; split <;> simp_all
    rw [e]
    exact hy.out.1
  · intro v' w' hown' hg
    rw [← List.map_append] at hown'
    obtain ⟨A2, c2, rfl, how⟩ := shape_ownB hown' (bytes_append.2 ⟨h4, bytes_cons.2 ⟨hy.out.2, bytes_nil⟩⟩)
    exact h A2 c2 w' how hg

/-- The text of a row of bytes. -/
theorem run_text {w : World} {A : Option Addr} {n c : Nat} {xs : List Nat} (h : IsB w A n xs) (hn : 0 < n) : (convert 66 9 (.slice A n c)).run Tryz.prog w = .ok (.string (strOf xs)) w := by
  obtain ⟨b, o, rfl, _, hc⟩ := h.2.2 hn
  have hl : (xs.map UInt8.ofNat).length = n := by rw [List.length_map, h.1]
  have hr := run_convert_bytes_back (P := Tryz.prog) w 66 9 5 ⟨b, o, none⟩ c (xs.map UInt8.ofNat) Tryz.underlying66 Tryz.underlying5 Tryz.underlying9 (fun j hj => ?_)
  · rw [hl] at hr
    exact hr
  · have hj2 : j < xs.length := by simpa using hj
    have e : (⟨b, o, none⟩ : Addr).add j = ⟨b, o + j, none⟩ := by unfold Addr.add; split <;> simp_all
    rw [e, hc j (by rw [← h.1]; exact hj2), List.getElem_map, UInt8.toNat_ofNat']
    have e2 : lim xs j = xs[j] := by simp [lim, List.getD_eq_getElem?_getD, List.getElem?_eq_getElem hj2]
    have e3 := h.2.1 xs[j] (List.getElem_mem hj2)
    rw [e2, Nat.mod_eq_of_lt e3]

end Go.Proofs.YtjpoolddgocbbaaGreatDoor

/- What package quo's divide answers, as a contract over memory: the quotient in its shortest limbs, and what is left. Conditions: both read as limbs; the divisor has two limbs or more, its highest bit set, and is not longer than the number; at most 10^8 limbs. -/
namespace Go.Proofs.YtjpoolddgocbbaaGreatDoor
open Go.RowKit Limb
set_option linter.unusedVariables false

/-- copy of limbs into a row of the call's own, as one step of a region that draws its order. -/
theorem step_copy_nat {w : World} {ops : Array Oper} {o : Oper} {a : Act} {K : Act → World → Prop} {Q : Exit → Act → World → Prop} {E : Prop} (hgd : o.guard = none) (d s : Operand)
    (ho : o.op = .call { callee := .builtin .copy, args := #[d, s], argTypes := #[24, 24] })
    (g off dLen dCap : Nat) (sp : Option Addr) (sLen sCap : Nat) (hd : a.eval d = .slice (some ⟨g, off, none⟩) dLen dCap) (hs : a.eval s = .slice sp sLen sCap)
    (B n : Nat) (zs : List Nat) (hown : Hid (OwnN w B (some ⟨g, 0, none⟩) n n zs)) (ys : List Nat) (hy : Hid (IsN w sp sLen ys)) (hlen : Hid (0 < sLen ∧ sLen ≤ dLen ∧ off + sLen ≤ n))
    (h : ∀ w', Hid (OwnN w' B (some ⟨g, 0, none⟩) n n (lay zs off ys)) → Hid (Others g w w') → Hid (∀ w0, Below B w0 w → Below B w0 w') → K (a.put o.dst (goInt sLen)) w') :
    if Region.wanted o (yielded ops a.tmps) = true then Oper.wp Tryz.prog o a w K Q else E := by
  have hw : Region.wanted o (yielded ops a.tmps) = true := by simp [Region.wanted, hgd]
  rw [if_pos hw]
  have hyl := hy.out.len
  obtain ⟨h0, h1, h2⟩ := hlen.out
  obtain ⟨b, ob, rfl, hb1, hcell⟩ := hy.out.2.2 (by omega)
  have hzl := hown.out.len
  rcases hown.out.1.2 with ⟨hv, _⟩ | ⟨g2, cap, cur, hv, hg, hh, h3, h4, h5, h6⟩
  · cases hv
  · injection hv with e1 e2 e3
    injection e1 with e1
    injection e1 with e1
    subst e1
    subst e3
    rw [Nat.mul_one] at h5 h6
    have hcur : cur.toList = zs.map limV := by rw [← h6, List.take_of_length_le (by simp [h5])]
    have hb : ∀ w0, Below B w0 w → Below B w0 (w.setRow g (cur.toList.take off ++ ((ys.map limV) ++ cur.toList.drop (off + (ys.map limV).length))).toArray) := fun w0 hb => below_setRow hb hg _
    have ho' : Others g w (w.setRow g (cur.toList.take off ++ ((ys.map limV) ++ cur.toList.drop (off + (ys.map limV).length))).toArray) := fun k hk => setRow_other w g k _ hk
    have hn : OwnN (w.setRow g (cur.toList.take off ++ ((ys.map limV) ++ cur.toList.drop (off + (ys.map limV).length))).toArray) B (some ⟨g, 0, none⟩) n n (lay zs off ys) := by
      have hl2 : (lay zs off ys).length = n := by rw [lay_length (by omega), hzl]
      refine ⟨⟨by simp [hl2], .inr ⟨g, n, _, rfl, hg, setRow_heap w g _ _ _ _ hh, Nat.le_refl _, h4, ?_, ?_⟩⟩, lay_small hown.out.small hy.out.small⟩
      · rw [hcur]; simp; omega
      · rw [hcur, List.take_of_length_le (by simp; omega)]
        simp [lay, List.map_append, List.map_take, List.map_drop]
    have e2 : goInt (ys.map limV).length = goInt sLen := by rw [List.length_map, hyl]
    have hrun := run_copy_row (P := Tryz.prog) w 24 24 o.type 38 g off dLen dCap ⟨b, ob, none⟩ sLen sCap cur 38 (ys.map limV) Tryz.underlying24 u32_size hh (by rw [List.length_map, hyl]; exact (Nat.min_eq_left h1).symm) ?_ ?_ (oneCell_u32 ys)
    · unfold Oper.wp
      simp only [execOp, ho, resolve, invoke, builtin, Sem.run_bind, Sem.run_pure, Result.andThen_ok, List.map_toArray, List.map_cons, List.map_nil, hd, hs, hrun]
      rw [e2, List.append_assoc]
      exact h _ hn ho' hb
    · intro j v hv
      obtain ⟨hj, rfl⟩ := map_u32_get hv
      have e : (⟨b, ob, none⟩ : Addr).add j = ⟨b, ob + j, none⟩ := by unfold Addr.add; split <;> simp_all
      rw [e]
      exact hcell j (by omega)
    · rw [h5]; simp; omega

theorem lay_start (xs : List Nat) (m : Nat) (h : xs.length + 1 = m) : lay (List.replicate (m + 1) 0) 0 xs = xs ++ [0, 0] := by
  simp only [lay, List.take_zero, List.nil_append, Nat.zero_add, List.drop_replicate]
  rw [show m + 1 - xs.length = 2 by omega]
  rfl

/-- Moved up by one limb, with another one below. -/
theorem lay_up (rs : List Nat) (m x : Nat) (h : rs.length = m + 1) : (lay rs 1 (rs.take m)).set 0 x = x :: rs.take m := by
  cases rs with
  | nil => simp at h
  | cons r rs => simp [lay]; simp at h; omega

set_option maxHeartbeats 2000000 in
theorem divide_any (A : Option Addr) (n c : Nat) (xs : List Nat) (A' : Option Addr) (m c' : Nat) (ys : List Nat) (w : World) (hx : IsN w A n xs) (hy : IsN w A' m ys) (hn : n ≤ 100000000) (hc : n ≤ c) (hm2 : 2 ≤ m) (hmn : m ≤ n) (hh : 2147483648 ≤ lim ys (m - 1)) :
    Calls Tryz.prog 100 #[.slice A n c, .slice A' m c'] w fun e w' => ∃ A1 n1 c1 A2 c2 zs, e = .returned (.tuple #[.slice A1 n1 c1, .slice A2 m c2]) ∧ OwnN w' w.heap.size A1 n1 c1 (limbs (val xs / val ys)) ∧
      (OwnN w' w.heap.size A2 m c2 zs ∧ val zs = val xs % val ys) ∧ Below w.heap.size w w' := by
  obtain ⟨s, hs⟩ : ∃ s, s = n - m + 1 := ⟨_, rfl⟩
  have es : (n : Int) - (m : Int) + 1 = (s : Int) := by omega
  have hs1 : s + m = n + 1 := by omega
  clear hs
  obtain ⟨b1, o1, rfl, hb1, hc1⟩ := hx.2.2 (by omega)
  have hsrc : IsN w (some ⟨b1, o1 + s, none⟩) (m - 1) (xs.drop s) := by
    refine ⟨by rw [List.length_drop, hx.len]; omega, small_drop hx.small _, fun _ => ⟨b1, o1 + s, rfl, hb1, fun j hj => ?_⟩⟩
    rw [lim_drop, Nat.add_assoc]
    exact hc1 (s + j) (by omega)
  have e1 : n - s = m - 1 := by omega
  have hsn : s < n := by omega
  have hmk1 := run_made ((m : Int) + 1) (m + 1) (by omega) (by omega)
  have hmk2 := run_made (s : Int) s rfl (by omega)
  have b2 := below_new w (.cells (madeCells #[.int .u32 0] (m + 1)) 38)
  have Hs := Lib.hid (own_made w (m + 1) (by omega))
  have Hu := Lib.hid (hsrc.below b2)
  have Hb2 := Lib.hid b2
  have Hlen2 : RowKit.Hid (m - 1 ≤ m + 1 ∧ 0 + (m - 1) ≤ m + 1) := ⟨by omega, by omega⟩
  have Hst := Lib.hid (DivInv.start hx.small (by rw [hx.len]; exact hs1) hm2 hy.len (by omega : 0 < lim ys (m - 1)))
  have Hlay := Lib.hid (lay_start (xs.drop s) m (by rw [hsrc.len]; omega))
  have Hxl := Lib.hid hx.len
  have hsx := hx.small
  clear b2 hsrc
  go_enter Tryz.func100, Tryz.ntmps100
  go_wp2_with (with_reducible refine wpList_copy_nat rfl (.tmp 20) (.tmp 23) rfl w.heap.size 0 (m + 1) (m + 1) (some ⟨b1, o1 + s, none⟩) (m - 1) (c - s) rfl rfl w.heap.size (m + 1) (List.replicate (m + 1) 0) Hs (xs.drop s) Hu Hlen2 ?_)
  intro w3 Ho Hoth Hbel
  rw [Hlay.out] at Ho
  have Hb3 := Lib.hid (Hbel.out w Hb2.out)
  clear Hs Hu Hb2 Hlen2 Hoth Hbel hmk1 Hlay
  have b4 := below_new w3 (.cells (madeCells #[.int .u32 0] s) 38)
  have Hq := Lib.hid ((own_made w3 s (by omega)).mono Hb3.out.size)
  have Hr := Lib.hid (Ho.out.below b4 (Nat.le_refl _))
  have Hb4 := Lib.hid (below_two Hb3.out b4)
  obtain ⟨g2, hg2⟩ : ∃ g2, g2 = w3.heap.size := ⟨_, rfl⟩
  have hgg : w.heap.size < g2 := by
    obtain ⟨g', e, _, h⟩ := Ho.out.addr (by omega)
    injection e with e; injection e with e; subst e; omega
  have Hg2 := Lib.hid hg2
  rw [← hg2] at Hq
  clear b4 Ho Hb3 hg2
  go_wp2
  rw [← Hg2.out]
  have HR := Hr
  go_loopw [9] (fun i wr => ∃ (k : Nat) (rs qs : List Nat), k ≤ s ∧ i = .int .i64 ((k : Int) - 1) ∧ RowKit.Hid (DivInv xs ys rs qs m k) ∧ RowKit.Hid (OwnN wr w.heap.size (some ⟨w.heap.size, 0, none⟩) (m + 1) (m + 1) rs) ∧
    RowKit.Hid (OwnN wr w.heap.size (some ⟨g2, 0, none⟩) s s qs) ∧ RowKit.Hid (Below w.heap.size w wr)) (fun i _ => (intOf i + 1).toNat)
  case atStart => exact ⟨s, _, _, Nat.le_refl _, rfl, Hst, Hr, Hq, Hb4⟩
  case round =>
    clear Hst Hr Hq Hb4 HR hmk2
    obtain ⟨k, rs, qs, hk, rfl, Hinv, Hr, Hq, Hb⟩ := hrel
    by_cases hk0 : k = 0
    · subst hk0
      have hd := Hinv.out.done
      have Hd1 := Lib.hid hd.1
      have hr0 := Hr.out.take (m := m) (by omega)
      have Hr0 := Lib.hid hr0
      have Hd2 := Lib.hid hd.2
      have hz := Hq.out.isN
      have hsz := Hq.out.small
      have Hbs := Lib.hid Hb.out.size
      clear hd hr0 Hinv Hr
      have hle2 : (m : Int) ≤ (m : Int) + 1 := by omega
      go_wp2
      go_region_with (go_at_call 63; refine (trim_any (some ⟨g2, 0, none⟩) s s qs _ (hz.below (Below.refl _ _).drew) (Nat.le_refl _) (by omega)).mono ?_; rintro e w5 ⟨A1, n1, c1, rfl, how, hb5⟩)
      all_goals
        have How : RowKit.Hid (OwnN w5 w.heap.size A1 n1 c1 (limbs (val xs / val ys))) := by
          rw [trim_eq_limbs hsz, Hd1.out] at how
          exact how.mono Hbs.out
        have Hr9 : RowKit.Hid (OwnN w5 w.heap.size (some ⟨w.heap.size, 0, none⟩) m (m + 1) (rs.take m)) := Hr0.out.below (C := wr.heap.size) ((Below.refl wr.heap.size wr).drew.trans hb5) (Nat.le_refl _)
        have HW : RowKit.Hid (Below w.heap.size w w5) := Hb.out.trans (((Below.refl wr.heap.size wr).drew.trans hb5).mono Hbs.out)
        clear how hb5 hz hsz Hq Hb Hr0
        go_wp2
        go_ret2
        exact ⟨_, _, _, _, _, rs.take m, rfl, How.out, ⟨Hr9.out, Hd2.out⟩, HW.out⟩
    · obtain ⟨j, rfl⟩ : ∃ j, k = j + 1 := ⟨k - 1, by omega⟩
      have ej : ((j + 1 : Nat) : Int) - 1 = (j : Int) := by omega
      rw [ej]
      have Hr1 : RowKit.Hid (OwnN wr.drew w.heap.size (some ⟨w.heap.size, 0, none⟩) (m + 1) (m + 1) rs) := Hr.out.below (C := _) (Below.refl _ _).drew (Nat.le_refl _)
      have Hq1 : RowKit.Hid (OwnN wr.drew w.heap.size (some ⟨g2, 0, none⟩) s s qs) := Hq.out.below (C := _) (Below.refl _ _).drew (Nat.le_refl _)
      have Hb1 : RowKit.Hid (Below w.heap.size w wr.drew) := Hb.out.drew
      have Hsrc := Lib.hid ((Hr1.out.isN).take (m := m) (by omega))
      have Hl2 : RowKit.Hid (0 < m ∧ m ≤ m ∧ 1 + m ≤ m + 1) := ⟨by omega, by omega, by omega⟩
      have Hrl := Lib.hid Hr.out.len
      have hle : 1 ≤ (m : Int) + 1 := by omega
      have hle2 : (m : Int) ≤ (m : Int) + 1 := by omega
      have hm0 : m ≠ 0 := by omega
      clear ej Hr Hq Hb
      go_wp2
      go_region_law ((refine step_copy_nat rfl (.tmp 34) (.tmp 37) rfl w.heap.size 1 m m (some ⟨w.heap.size, 0, none⟩) m (m + 1) (by simp [Act.eval, Act.put]) (by simp [Act.eval, Act.put]) w.heap.size (m + 1) rs Hr1 (rs.take m) Hsrc Hl2 ?_; intro w4 Hr4 Ho4 Hbel4))
      all_goals
        have Hb4 := Lib.hid (Hbel4.out w Hb1.out)
        have Hq4 : RowKit.Hid (OwnN w4 w.heap.size (some ⟨g2, 0, none⟩) s s qs) := Hq1.out.others Ho4.out (by intro b o t e; injection e with e; injection e with e; omega)
        have l1 := lim_lt hsx j
        have hcx : w4.cell? ⟨b1, o1 + j, none⟩ = some (.int .u32 ((lim xs j : Nat) : Int)) := (Hb4.out.cell (p := ⟨b1, o1 + j, none⟩) hb1).trans (hc1 j (by omega))
        have f4 := Hr4.out.1.frozenAt 0
        have c4 := Hr4.out.cell (k := 0) (by omega)
        have Hset : RowKit.Hid (OwnN (w4.setCell ⟨w.heap.size, 0, none⟩ (.int .u32 ((lim xs j : Nat) : Int))) w.heap.size (some ⟨w.heap.size, 0, none⟩) (m + 1) (m + 1) (lim xs j :: rs.take m)) := by
          have h := Hr4.out.set 0 l1
          rw [lay_up rs m _ Hrl.out] at h
          exact h
        have Hb5 : RowKit.Hid (Below w.heap.size w (w4.setCell ⟨w.heap.size, 0, none⟩ (.int .u32 ((lim xs j : Nat) : Int)))) := Hb4.out.setCell (by exact Nat.le_refl _) _
        have Hq5 : RowKit.Hid (OwnN (w4.setCell ⟨w.heap.size, 0, none⟩ (.int .u32 ((lim xs j : Nat) : Int))) w.heap.size (some ⟨g2, 0, none⟩) s s qs) := Hq4.out.others ((Others.refl w.heap.size w4).setCell 0 _) (by intro b o t e; injection e with e; injection e with e; omega)
        have hlt := Hinv.out.lt l1
        have hb0 : 0 < val ys := Nat.lt_of_le_of_lt (Nat.zero_le _) Hinv.out.2
        obtain ⟨q, hq⟩ : ∃ q, val (lim xs j :: rs.take m) / val ys = q := ⟨_, rfl⟩
        have hq4 : q < 4294967296 := by rw [← hq, Nat.div_lt_iff_lt_mul hb0, Nat.mul_comm]; exact hlt
        have Hlt := Lib.hid hlt
        have Hqe := Lib.hid hq
        have hm9 : m ≤ 1000000000 := by omega
        clear Ho4 Hbel4 Hb1 Hq1 Hr1 Hsrc Hl2 Hb4 Hq4 Hr4 hlt hq hb0
        go_wp2_with fail
        refine (takeOut_any w _ Hb5.out w.heap.size m (m + 1) _ Hset.out A' c' ys hy hm2 hm9 hh Hlt.out q Hqe.out).mono ?_
        rintro e w6 ⟨rfl, ⟨zs, hz, hv⟩, hb6, ho6⟩
        have Hq6 : RowKit.Hid (OwnN w6 w.heap.size (some ⟨g2, 0, none⟩) s s qs) := Hq5.out.others ho6 (by intro b o t e; injection e with e; injection e with e; omega)
        have f6 := Hq6.out.1.frozenAt j
        have c6 := Hq6.out.cell (k := j) (by omega)
        have Hq7 := Lib.hid (Hq6.out.set j hq4)
        have Hr7 : RowKit.Hid (OwnN (w6.setCell ⟨g2, j, none⟩ (.int .u32 (q : Int))) w.heap.size (some ⟨w.heap.size, 0, none⟩) (m + 1) (m + 1) zs) := hz.others ((Others.refl g2 w6).setCell j _) (by intro b o t e; injection e with e; injection e with e; omega)
        have Hb7 : RowKit.Hid (Below w.heap.size w (w6.setCell ⟨g2, j, none⟩ (.int .u32 (q : Int)))) := hb6.setCell (by exact Nat.le_of_lt hgg) _
        have Hst : RowKit.Hid (DivInv xs ys zs (qs.set j q) m j) := by
          have h := Hinv.out.step (by rw [Hxl.out]; omega) (by rw [Hq6.out.len]; omega) hv
          rw [Hqe.out] at h
          exact h
        clear hz hv hb6 ho6 Hq6 Hq5 Hb5 Hset Hlt Hqe Hinv
        go_wp2
        go_roundw
        case rel => exact ⟨j, zs, qs.set j q, by omega, by go_num, Hst, Hr7, Hq7, Hb7⟩
        case measure => simp [intOf] <;> omega

end Go.Proofs.YtjpoolddgocbbaaGreatDoor

/- What package mul's down answers, as a contract over memory: a number moved down by bits, in shortest limbs, in new memory. Conditions: the list reads as limbs, of at most 10^8 of them; moves of at most 8192 bits. -/
namespace Go.Proofs.YtjpoolddgocbbaaGreatDoor.Limb

/-- A limb of a number moved down by r bits, and the lowest bits of the next one. -/
def downLimb (ys : List Nat) (r j : Nat) : Nat := lim ys j / 2 ^ r ||| lim ys (j + 1) * 2 ^ (32 - r) % 4294967296

theorem downLimb_lt {ys : List Nat} (hy : Small ys) (r j : Nat) : downLimb ys r j < 4294967296 := by
  have h1 : lim ys j / 2 ^ r < 2 ^ 32 := Nat.lt_of_le_of_lt (Nat.div_le_self _ _) (lim_lt hy j)
  have h2 : lim ys (j + 1) * 2 ^ (32 - r) % 4294967296 < 2 ^ 32 := Nat.mod_lt _ (by decide)
  exact Nat.or_lt_two_pow h1 h2

theorem downLimb_last {ys : List Nat} (r j : Nat) (h : ys.length ≤ j + 1) : downLimb ys r j = lim ys j / 2 ^ r := by
  unfold downLimb; rw [lim_of_ge h]; simp

theorem val_down {ys zs : List Nat} {r : Nat} (hy : Small ys) (hz : Small zs) (hr : r < 32) (hl : zs.length = ys.length) (h : ∀ j, j < ys.length → lim zs j = downLimb ys r j) : val zs = val ys / 2 ^ r := by
  refine Nat.eq_of_testBit_eq fun i => ?_
  rw [testBit_lim zs hz, Nat.testBit_div_two_pow, testBit_lim ys hy]
  by_cases hj : i / 32 < ys.length
  · rw [h _ hj, downLimb, Nat.testBit_or, Nat.testBit_div_two_pow, show (4294967296 : Nat) = 2 ^ 32 from rfl, Nat.testBit_mod_two_pow, Nat.testBit_mul_two_pow]
    have hq : i % 32 < 32 := Nat.mod_lt _ (by decide)
    by_cases hc : i % 32 + r < 32
    · have e1 : (i + r) / 32 = i / 32 := by omega
      have e2 : (i + r) % 32 = i % 32 + r := by omega
      have e3 : ¬ (32 - r ≤ i % 32) := by omega
      rw [e1, e2]
      simp [e3]
    · have e1 : (i + r) / 32 = i / 32 + 1 := by omega
      have e2 : (i + r) % 32 = i % 32 - (32 - r) := by omega
      have e3 : 32 - r ≤ i % 32 := by omega
      have e4 : (lim ys (i / 32)).testBit (i % 32 + r) = false := Nat.testBit_lt_two_pow (Nat.lt_of_lt_of_le (lim_lt hy _) (by
        have : 2 ^ 32 ≤ 2 ^ (i % 32 + r) := Nat.pow_le_pow_right (by decide) (by omega)
        simpa using this))
      rw [e1, e2, e4]
      simp [e3, hq]
  · rw [lim_of_ge (by omega), lim_of_ge (xs := ys) (by omega)]
    simp

theorem val_drop {xs : List Nat} (hx : Small xs) (k : Nat) (hk : k ≤ xs.length) : val (xs.drop k) = val xs / 4294967296 ^ k := by
  have h1 := val_split xs k hk
  have h2 := val_lt (small_take hx k)
  rw [List.length_take, Nat.min_eq_left hk] at h2
  rw [h1, Nat.add_mul_div_left _ _ (Nat.pow_pos (by decide)), Nat.div_eq_of_lt h2, Nat.zero_add]

theorem div_move (a n : Nat) : a / 4294967296 ^ (n / 32) / 2 ^ (n % 32) = a / 2 ^ n := by
  rw [Nat.div_div_eq_div_mul, pow_move]

/-- So many limbs are moved down. -/
def DownInv (ys zs : List Nat) (r k : Nat) : Prop := zs.length = ys.length ∧ (∀ j, j < k → lim zs j = downLimb ys r j) ∧ ∀ j, k ≤ j → lim zs j = lim ys j

theorem DownInv.start (ys : List Nat) (r : Nat) : DownInv ys ys r 0 := ⟨rfl, fun j hj => by omega, fun _ _ => rfl⟩

theorem DownInv.step {ys zs : List Nat} {r k v : Nat} (h : DownInv ys zs r k) (hk : k < ys.length) (hv : v = downLimb ys r k) : DownInv ys (zs.set k v) r (k + 1) := by
  obtain ⟨h1, h2, h3⟩ := h
  refine ⟨by simpa using h1, fun j hj => ?_, fun j hj => by rw [lim_set_ne (by omega)]; exact h3 j (by omega)⟩
  by_cases e : j = k
  · subst e; rw [lim_set_self (by omega), hv]
  · rw [lim_set_ne (fun h => e h.symm)]; exact h2 j (by omega)

theorem set_set {zs : List Nat} {k u v : Nat} : (zs.set k u).set k v = zs.set k v := by simp

end Go.Proofs.YtjpoolddgocbbaaGreatDoor.Limb
namespace Go.Proofs.YtjpoolddgocbbaaGreatDoor
open Go.RowKit Limb
set_option linter.unusedVariables false

set_option maxHeartbeats 1000000 in
theorem mulDown_any (A : Option Addr) (n c : Nat) (xs : List Nat) (k : Nat) (V : Int) (hV : V = k) (w : World) (hx : IsN w A n xs) (hm : n ≤ 90000000) (hc : n ≤ c) (hk : k ≤ 8192) :
    Calls Tryz.prog 123 #[.slice A n c, .int .i64 V] w fun e w' => ∃ A2 n2 c2, e = .returned (.slice A2 n2 c2) ∧ OwnN w' w.heap.size A2 n2 c2 (limbs (val xs / 2 ^ k)) ∧ Below w.heap.size w w' := by
  subst hV
  obtain ⟨q, hq⟩ : ∃ q, q = k / 32 := ⟨_, rfl⟩
  obtain ⟨r, hr⟩ : ∃ r, r = k % 32 := ⟨_, rfl⟩
  have Hk : RowKit.Hid (val xs / 4294967296 ^ q / 2 ^ r = val xs / 2 ^ k) := by show _ = _; rw [hq, hr]; exact div_move _ _
  have eq1 : (k : Int) / 32 = (q : Int) := by omega
  have er1 : (k : Int) % 32 = (r : Int) := by omega
  have hr32 : r < 32 := by omega
  have hq3 : q ≤ 256 := by omega
  clear hq hr
  by_cases hqn : n ≤ q
  · have Hf : RowKit.Hid (limbs (val xs / 2 ^ k) = []) := by
      show _ = _
      have h1 := val_lt hx.small
      rw [hx.len] at h1
      have h2 : 4294967296 ^ n ≤ 4294967296 ^ q := Nat.pow_le_pow_right (by decide) hqn
      rw [← Hk.out, Nat.div_eq_of_lt (Nat.lt_of_lt_of_le h1 h2), Nat.zero_div, limbs_zero]
    go_enter Tryz.func123, Tryz.ntmps123
    go_wp2
    go_ret
    exact ⟨_, _, _, rfl, by rw [Hf.out]; exact OwnN.nil _ _, Below.refl _ _⟩
  · have hqn : q < n := by omega
    obtain ⟨m, hm2⟩ : ∃ m, m = n - q := ⟨_, rfl⟩
    have em : (n : Int) - (q : Int) = (m : Int) := by omega
    have em2 : n - q = m := hm2.symm
    have hm0 : 0 < m := by omega
    have hmn : m ≤ 90000000 := by omega
    have hmk2 := run_made (m : Int) m rfl (by omega)
    obtain ⟨b1, o1, rfl, hb1, hc1⟩ := hx.2.2 (by omega)
    have hsrc : IsN w (some ⟨b1, o1 + q, none⟩) m (xs.drop q) := by
      refine ⟨by rw [List.length_drop, hx.len]; omega, small_drop hx.small _, fun _ => ⟨b1, o1 + q, rfl, hb1, fun j hj => ?_⟩⟩
      rw [lim_drop, Nat.add_assoc]
      exact hc1 (q + j) (by omega)
    have b2 := below_new w (.cells (madeCells #[.int .u32 0] m) 38)
    have Hs := Lib.hid (own_made w m (by omega))
    have Hu := Lib.hid (hsrc.below b2)
    have Hb2 := Lib.hid b2
    have Hlen2 : RowKit.Hid (m ≤ m ∧ 0 + m ≤ m) := ⟨Nat.le_refl _, by omega⟩
    have Hvd : RowKit.Hid (val (xs.drop q) = val xs / 4294967296 ^ q) := val_drop hx.small q (by rw [hx.len]; omega)
    obtain ⟨ys, hys⟩ : ∃ ys, ys = xs.drop q := ⟨_, rfl⟩
    rw [← hys] at hsrc Hu Hvd
    have hyl := hsrc.len
    have hysm := hsrc.small
    have Hyl := Lib.hid hyl
    clear hys hsrc b2 hx hc1 hm2 hyl
    go_enter Tryz.func123, Tryz.ntmps123
    go_wp2_with (with_reducible refine wpList_copy_nat rfl (.tmp 20) (.tmp 23) rfl w.heap.size 0 m m (some ⟨b1, o1 + q, none⟩) m (c - q) rfl rfl w.heap.size m (List.replicate m 0) Hs ys Hu Hlen2 ?_)
    intro w3 Ho Hoth Hbel
    have Hb3 := Lib.hid (Hbel.out w Hb2.out)
    have Ho3 : RowKit.Hid (OwnN w3 w.heap.size (some ⟨w.heap.size, 0, none⟩) m m ys) := by
      have h := Ho.out
      have e2 : lay (List.replicate m 0) 0 ys = ys := by simp [lay, Hyl.out]
      rw [e2] at h
      exact h
    clear Hs Hu Hb2 Hoth Hbel Ho
    go_wp2
    go_loopw [29] (fun i wr => ∃ (j : Nat) (zs : List Nat), j ≤ m ∧ i = .int .i64 (j : Int) ∧ RowKit.Hid (DownInv ys zs r j) ∧ RowKit.Hid (OwnN wr w.heap.size (some ⟨w.heap.size, 0, none⟩) m m zs) ∧ RowKit.Hid (Below w.heap.size w wr)) (fun i _ => m - (intOf i).toNat)
    case atStart => exact ⟨0, ys, Nat.zero_le _, rfl, DownInv.start _ _, Ho3, Hb3⟩
    case round =>
      clear Ho3 Hb3
      obtain ⟨j, zs, hj, rfl, Hinv, Ho, Hb⟩ := hrel
      by_cases hjm : j < m
      · have hsz := Ho.out.small
        have l1 := lim_lt hsz j
        have l2 := lim_lt hsz (j + 1)
        have h2 := Ho.out.cell (k := j) (by omega)
        have h3 := Ho.out.1.frozenAt j
        obtain ⟨t, ht⟩ : ∃ t, t = lim zs j / 2 ^ r := ⟨_, rfl⟩
        have et : ((lim zs j : Nat) : Int) / 2 ^ r = (t : Int) := by rw [ht]; simp
        have htl : t < 4294967296 := by rw [ht]; exact Nat.lt_of_le_of_lt (Nat.div_le_self _ _) l1
        have Ho1 : RowKit.Hid (OwnN (wr.setCell ⟨w.heap.size, j, none⟩ (.int .u32 (t : Int))) w.heap.size (some ⟨w.heap.size, 0, none⟩) m m (zs.set j t)) := Ho.out.set j htl
        have Hb1 : RowKit.Hid (Below w.heap.size w (wr.setCell ⟨w.heap.size, j, none⟩ (.int .u32 (t : Int)))) := Hb.out.setCell (by exact Nat.le_refl _) _
        have Hz : RowKit.Hid (lim zs j = lim ys j ∧ lim zs (j + 1) = lim ys (j + 1) ∧ zs.length = m) := ⟨Hinv.out.2.2 j (Nat.le_refl _), Hinv.out.2.2 (j + 1) (by omega), Ho.out.len⟩
        have Ht := Lib.hid ht
        by_cases hlast : j + 1 < m
        · have c1 : (wr.setCell ⟨w.heap.size, j, none⟩ (.int .u32 (t : Int))).cell? ⟨w.heap.size, j, none⟩ = some (.int .u32 (t : Int)) := by
            have := Ho1.out.cell (k := j) (by omega)
            rwa [lim_set_self (by rw [Hz.out.2.2]; omega)] at this
          have c2 : (wr.setCell ⟨w.heap.size, j, none⟩ (.int .u32 (t : Int))).cell? ⟨w.heap.size, j + 1, none⟩ = some (.int .u32 ((lim zs (j + 1) : Nat) : Int)) := by
            have := Ho1.out.cell (k := j + 1) (by omega)
            rwa [lim_set_ne (by omega)] at this
          have f1 := Ho1.out.1.frozenAt j
          have hle : (((j : Int) + 1)) < (m : Int) := by omega
          obtain ⟨d, hd⟩ : ∃ d, d = downLimb ys r j := ⟨_, rfl⟩
          have hdl : d < 4294967296 := by rw [hd]; exact downLimb_lt hysm _ _
          have Hbits : RowKit.Hid (bits BinOp.or IntKind.u32 (t : Int) (((lim zs (j + 1) : Nat) : Int) * 2 ^ (32 - r) % 4294967296) = (d : Int)) := by
            have e1 : (((lim zs (j + 1) : Nat) : Int) * 2 ^ (32 - r) % 4294967296) = ((lim zs (j + 1) * 2 ^ (32 - r) % 4294967296 : Nat) : Int) := by
              rw [Int.natCast_emod, Int.natCast_mul, Int.natCast_pow]; rfl
            show _ = _
            rw [e1, u32_or_nat _ _ htl (Nat.mod_lt _ (by decide)), hd, downLimb, ht, Hz.out.1, Hz.out.2.1]
          have Hst : RowKit.Hid (DownInv ys (zs.set j d) r (j + 1)) := Hinv.out.step (by rw [Hyl.out]; exact hjm) hd
          clear ht hd
          go_wp2
          clear h2 h3 et Ho Hb
          generalize wr.setCell ⟨w.heap.size, j, none⟩ (.int .u32 (t : Int)) = W1 at *
          go_region
          rw [Hbits.out]
          have Ho2 : RowKit.Hid (OwnN (W1.setCell ⟨w.heap.size, j, none⟩ (.int .u32 (d : Int))).drew w.heap.size (some ⟨w.heap.size, 0, none⟩) m m (zs.set j d)) := by
            have h := Ho1.out.set j hdl
            rw [set_set] at h
            exact h.below (C := _) (Below.refl _ _).drew (Nat.le_refl _)
          have Hb2 : RowKit.Hid (Below w.heap.size w (W1.setCell ⟨w.heap.size, j, none⟩ (.int .u32 (d : Int))).drew) := (Hb1.out.setCell (by exact Nat.le_refl _) _).drew
          clear Ho1 Hb1 c1 c2 f1 Hbits
          go_wp2
          go_roundw
          case rel => exact ⟨j + 1, zs.set j d, by omega, by go_num, Hst, Ho2, Hb2⟩
          case measure => simp [intOf]; omega
        · have Hst : RowKit.Hid (DownInv ys (zs.set j t) r (j + 1)) := Hinv.out.step (by rw [Hyl.out]; exact hjm) (by rw [downLimb_last _ _ (by rw [Hyl.out]; omega), ht, Hz.out.1])
          have hle : (m : Int) ≤ ((j : Int) + 1) := by omega
          clear ht
          go_wp2
          go_roundw
          case rel => exact ⟨j + 1, zs.set j t, by omega, by go_num, Hst, Ho1, Hb1⟩
          case measure => simp [intOf]; omega
      · obtain rfl : j = m := by omega
        have hz := Ho.out.isN
        have hzl := Ho.out.len
        have ht := trim_len_le zs
        have how2 := Ho.out.take (m := (trim zs).length) (by omega)
        rw [← trim_take zs] at how2
        have Hf : RowKit.Hid (trim zs = limbs (val xs / 2 ^ k)) := by
          show _ = _
          rw [trim_eq_limbs Ho.out.small, val_down hysm Ho.out.small hr32 (by rw [hzl, Hyl.out]) (fun i hi => Hinv.out.2.1 i (by rw [← Hyl.out]; exact hi)), Hvd.out, Hk.out]
        clear hzl
        go_wp2_with fail
        refine (mulCut_any _ _ _ zs _ hz (Nat.le_refl _) (by omega)).mono ?_
        rintro e w3 ⟨rfl, rfl⟩
        go_wp2
        go_ret
        refine ⟨_, (trim zs).length, _, rfl, ?_, Hb.out⟩
        rw [← Hf.out]
        exact how2

end Go.Proofs.YtjpoolddgocbbaaGreatDoor

/- What math/bits' Len64 and Len answer: how many bits a word has; and package mul's Shift. Conditions: none for Len; for Shift the list reads as limbs, of at most 9*10^7 of them. -/
namespace Go.Proofs.YtjpoolddgocbbaaGreatDoor
open Go.RowKit Limb
set_option linter.unusedVariables false

set_option maxHeartbeats 8000000 in
set_option maxRecDepth 100000 in
theorem len64_any (x : Int) (w : World) (h0 : 0 ≤ x) (h1 : x < 18446744073709551616) :
    Calls Tryz.prog 128 #[.int .u64 x] w fun e w' => e = .returned (.int .i64 ((blen x.toNat : Nat) : Int)) ∧ w = w' := by
  rw [← bitLen_blen x.toNat (by omega)]
  have hsz := len8tab_size
  by_cases c0 : x < 4294967296
  · by_cases c1 : x < 65536
    · by_cases c2 : x < 256
      · have e := len8_byte (x) (size_bound _ (by omega)) (by omega) (by omega)
        have l := Lib.bitLen_le8' (x) (by omega) (by omega)
        have H := Lib.hid (wrap_len0 _ (Lib.bitLen x.toNat) (e ▸ l) e.symm)
        clear e
        go_enter Tryz.func128, Tryz.ntmps128
        go_wp2
        go_ret
        exact ⟨ret_int H.out, rfl⟩
      · have e := len8_byte (x / 256) (size_bound _ (by omega)) (by omega) (by omega)
        have l := Lib.bitLen_le8' (x / 256) (by omega) (by omega)
        have s := Lib.bitLen_shift8 x.toNat (by omega) (by omega)
        rw [show x.toNat / 256 = (x / 256).toNat by omega] at s
        have H := Lib.hid (wrap_len 8 _ (Lib.bitLen x.toNat) (by omega) (e ▸ l) (by rw [e]; exact s))
        clear e s
        go_enter Tryz.func128, Tryz.ntmps128
        go_wp2
        go_ret
        exact ⟨ret_int H.out, rfl⟩
    · by_cases c2 : x / 65536 < 256
      · have e := len8_byte (x / 65536) (size_bound _ (by omega)) (by omega) (by omega)
        have l := Lib.bitLen_le8' (x / 65536) (by omega) (by omega)
        have s := Lib.bitLen_shift16 x.toNat (by omega) (by omega)
        rw [show x.toNat / 65536 = (x / 65536).toNat by omega] at s
        have H := Lib.hid (wrap_len 16 _ (Lib.bitLen x.toNat) (by omega) (e ▸ l) (by rw [e]; exact s))
        clear e s
        go_enter Tryz.func128, Tryz.ntmps128
        go_wp2
        go_ret
        exact ⟨ret_int H.out, rfl⟩
      · have e := len8_byte (x / 65536 / 256) (size_bound _ (by omega)) (by omega) (by omega)
        have l := Lib.bitLen_le8' (x / 65536 / 256) (by omega) (by omega)
        have s := Lib.bitLen_shift24 x.toNat (by omega) (by omega)
        rw [show x.toNat / 16777216 = (x / 65536 / 256).toNat by omega] at s
        have H := Lib.hid (wrap_len 24 _ (Lib.bitLen x.toNat) (by omega) (e ▸ l) (by rw [e]; exact s))
        clear e s
        go_enter Tryz.func128, Tryz.ntmps128
        go_wp2
        go_ret
        exact ⟨ret_int H.out, rfl⟩
  · by_cases c1 : x / 4294967296 < 65536
    · by_cases c2 : x / 4294967296 < 256
      · have e := len8_byte (x / 4294967296) (size_bound _ (by omega)) (by omega) (by omega)
        have l := Lib.bitLen_le8' (x / 4294967296) (by omega) (by omega)
        have s := Lib.bitLen_shift32 x.toNat (by omega) (by omega)
        rw [show x.toNat / 4294967296 = (x / 4294967296).toNat by omega] at s
        have H := Lib.hid (wrap_len 32 _ (Lib.bitLen x.toNat) (by omega) (e ▸ l) (by rw [e]; exact s))
        clear e s
        go_enter Tryz.func128, Tryz.ntmps128
        go_wp2
        go_ret
        exact ⟨ret_int H.out, rfl⟩
      · have e := len8_byte (x / 4294967296 / 256) (size_bound _ (by omega)) (by omega) (by omega)
        have l := Lib.bitLen_le8' (x / 4294967296 / 256) (by omega) (by omega)
        have s := Lib.bitLen_shift40 x.toNat (by omega) (by omega)
        rw [show x.toNat / 1099511627776 = (x / 4294967296 / 256).toNat by omega] at s
        have H := Lib.hid (wrap_len 40 _ (Lib.bitLen x.toNat) (by omega) (e ▸ l) (by rw [e]; exact s))
        clear e s
        go_enter Tryz.func128, Tryz.ntmps128
        go_wp2
        go_ret
        exact ⟨ret_int H.out, rfl⟩
    · by_cases c2 : x / 4294967296 / 65536 < 256
      · have e := len8_byte (x / 4294967296 / 65536) (size_bound _ (by omega)) (by omega) (by omega)
        have l := Lib.bitLen_le8' (x / 4294967296 / 65536) (by omega) (by omega)
        have s := Lib.bitLen_shift48 x.toNat (by omega) (by omega)
        rw [show x.toNat / 281474976710656 = (x / 4294967296 / 65536).toNat by omega] at s
        have H := Lib.hid (wrap_len 48 _ (Lib.bitLen x.toNat) (by omega) (e ▸ l) (by rw [e]; exact s))
        clear e s
        go_enter Tryz.func128, Tryz.ntmps128
        go_wp2
        go_ret
        exact ⟨ret_int H.out, rfl⟩
      · have e := len8_byte (x / 4294967296 / 65536 / 256) (size_bound _ (by omega)) (by omega) (by omega)
        have l := Lib.bitLen_le8' (x / 4294967296 / 65536 / 256) (by omega) (by omega)
        have s := Lib.bitLen_shift56 x.toNat (by omega) (by omega)
        rw [show x.toNat / 72057594037927936 = (x / 4294967296 / 65536 / 256).toNat by omega] at s
        have H := Lib.hid (wrap_len 56 _ (Lib.bitLen x.toNat) (by omega) (e ▸ l) (by rw [e]; exact s))
        clear e s
        go_enter Tryz.func128, Tryz.ntmps128
        go_wp2
        go_ret
        exact ⟨ret_int H.out, rfl⟩

theorem len_any (x : Int) (w : World) (h0 : 0 ≤ x) (h1 : x < 18446744073709551616) :
    Calls Tryz.prog 114 #[.int .u64 x] w fun e w' => e = .returned (.int .i64 ((blen x.toNat : Nat) : Int)) ∧ w = w' := by
  go_enter Tryz.func114, Tryz.ntmps114
  go_wp2_with fail
  refine (len64_any x w h0 h1).mono ?_
  rintro e w1 ⟨rfl, rfl⟩
  go_wp2
  go_ret
  exact ⟨rfl, rfl⟩

/-- A number moved by so many bits, up or down; far moves up as of 8192 bits, far moves down to nothing. -/
def shiftV (a : Nat) (n : Int) : Nat := if n < -8192 then 0 else if n < 0 then a / 2 ^ (-n).toNat else a * 2 ^ (min n 8192).toNat

theorem shiftV_far {a : Nat} {n : Int} (h : n < -8192) : shiftV a n = 0 := by simp [shiftV, h]
theorem shiftV_down {a : Nat} {n : Int} {k : Nat} (h : n < 0) (h2 : ¬ n < -8192) (hk : -n = k) : shiftV a n = a / 2 ^ k := by
  unfold shiftV; rw [if_neg h2, if_pos h, hk, Int.toNat_natCast]
theorem shiftV_up {a : Nat} {n : Int} {k : Nat} (h : ¬ n < 0) (hk : min n 8192 = k) : shiftV a n = a * 2 ^ k := by
  unfold shiftV; rw [if_neg (by omega), if_neg h, hk, Int.toNat_natCast]

set_option maxHeartbeats 1000000 in
theorem mulShift_any (A : Option Addr) (n c : Nat) (xs : List Nat) (V : Int) (w : World) (hx : IsN w A n xs) (hm : n ≤ 90000000) (hc : n ≤ c) (h0 : -9223372036854775808 ≤ V) (h1 : V ≤ 9223372036854775807) :
    Calls Tryz.prog 101 #[.slice A n c, .int .i64 V] w fun e w' => ∃ A2 n2 c2, e = .returned (.slice A2 n2 c2) ∧ OwnN w' w.heap.size A2 n2 c2 (limbs (shiftV (val xs) V)) ∧ Below w.heap.size w w' := by
  by_cases c1 : V < -8192
  · have Hf : RowKit.Hid (limbs (shiftV (val xs) V) = []) := by show _ = _; rw [shiftV_far c1, limbs_zero]
    go_enter Tryz.func101, Tryz.ntmps101
    go_wp2
    go_ret
    exact ⟨_, _, _, rfl, by rw [Hf.out]; exact OwnN.nil _ _, Below.refl _ _⟩
  · by_cases c2 : V < 0
    · obtain ⟨k, hk⟩ := Int.eq_ofNat_of_zero_le (show 0 ≤ -V by omega)
      have Hf := Lib.hid (shiftV_down (a := val xs) c2 c1 hk)
      have hlt := trim_len_le xs
      have hl := hx.len
      have hx' := IsN.take hx (m := (trim xs).length) (by omega)
      rw [← trim_take xs] at hx'
      have ex := trim_eq_limbs hx.small
      have hb : (trim xs).length ≤ 90000000 := by omega
      have hbc : (trim xs).length ≤ c := by omega
      have Hl : RowKit.Hid (val (trim xs) = val xs) := by show _ = _; rw [ex, val_limbs]
      have c3 : -8192 ≤ V := by omega
      have hk2 : k ≤ 8192 := by omega
      clear hl ex hlt c1
      go_enter Tryz.func101, Tryz.ntmps101
      go_wp2_with fail
      refine (mulCut_any A n c xs w hx hc (by omega)).mono ?_
      rintro e w1 ⟨rfl, rfl⟩
      generalize trim xs = ys at *
      go_wp2_with fail
      refine (mulDown_any A ys.length c ys k _ (by omega) w hx' hb hbc hk2).mono ?_
      rintro e w1 ⟨A1, n1, c1, rfl, how, hbe⟩
      rw [Hl.out, ← Hf.out] at how
      clear hk
      go_wp2
      go_ret
      exact ⟨_, _, _, rfl, how, hbe⟩
    · by_cases c3 : V ≤ 8192
      case' pos =>
        obtain ⟨k, hk⟩ := Int.eq_ofNat_of_zero_le (show 0 ≤ V by omega)
        have Hf := Lib.hid (shiftV_up (a := val xs) (k := k) c2 (by omega))
        have hk2 : k ≤ 8192 := by omega
        have hk3 : V = k := by omega
      case' neg =>
        obtain ⟨k, hk, hk2⟩ : ∃ k : Nat, k = 8192 ∧ k ≤ 8192 := ⟨8192, rfl, by omega⟩
        have Hf := Lib.hid (shiftV_up (a := val xs) (k := k) c2 (by omega))
        have c4 : 8192 < V := by omega
        have hk3 : (8192 : Int) = k := by omega
        clear c3
      all_goals
        have Hk := Lib.hid hk3
        have c5 : 0 ≤ V := by omega
        clear hk3 c1 c2 hk
        go_enter Tryz.func101, Tryz.ntmps101
        go_wp2_with fail
        refine (mulUp_any A n c xs k _ Hk.out w hx hm hc hk2).mono ?_
        rintro e w1 ⟨A1, n1, c1, rfl, how, hbe⟩
        rw [← Hf.out] at how
        go_wp2
        go_ret
        exact ⟨_, _, _, rfl, how, hbe⟩

end Go.Proofs.YtjpoolddgocbbaaGreatDoor

/- Package mul's contracts in one form (numbers, lengths), and what Pow answers: the power that is made bit by bit from the highest one, or nothing where a step has too many limbs. Conditions: lists read as limbs, of at most 10^7 of them. -/
namespace Go.Proofs.YtjpoolddgocbbaaGreatDoor.Limb

/-- Has a number more limbs than a step may have? -/
def big (x : Nat) : Bool := decide (4294967296 ^ 256 ≤ x)
theorem big_yes {x : Nat} (h : big x = true) : 256 < (limbs x).length := lt_length_limbs (by simpa [big] using h)
theorem big_no {x : Nat} (h : big x = false) : x < 4294967296 ^ 256 := by simpa [big] using h

/-- One bit of a power: squared, and, if the bit is set, times a. -/
def stepP (a out : Nat) (b : Bool) : Option Nat :=
  if big (out * out) then none else if b then (if big (out * out * a) then none else some (out * out * a)) else some (out * out)

/-- A power bit by bit: the lowest i bits of n are still to do. -/
def powF (a n : Nat) : Nat → Nat → Option Nat
  | 0, out => some out
  | i + 1, out => match stepP a out (n.testBit i) with
    | none => none
    | some o => powF a n i o

theorem powF_none {a n i out : Nat} {T : Option Nat} (h : powF a n (i + 1) out = T) (hs : stepP a out (n.testBit i) = none) : T = none := by
  rw [powF, hs] at h; exact h.symm
theorem powF_some {a n i out o : Nat} {T : Option Nat} (h : powF a n (i + 1) out = T) (hs : stepP a out (n.testBit i) = some o) : powF a n i o = T := by
  rw [powF, hs] at h; exact h

theorem stepP_big {a out : Nat} {b : Bool} (h : big (out * out) = true) : stepP a out b = none := by rw [stepP, if_pos h]
theorem stepP_no {a out : Nat} (h : big (out * out) = false) : stepP a out false = some (out * out) := by simp [stepP, h]
theorem stepP_yes {a out : Nat} (h : big (out * out) = false) (h2 : big (out * out * a) = false) : stepP a out true = some (out * out * a) := by simp [stepP, h, h2]
theorem stepP_over {a out : Nat} (h : big (out * out) = false) (h2 : big (out * out * a) = true) : stepP a out true = none := by simp [stepP, h, h2]

/-- The bits above the highest one change nothing. -/
theorem powF_lead (a n d : Nat) : powF a n (blen n + d) 1 = powF a n (blen n) 1 := by
  induction d with
  | zero => rfl
  | succ d ih =>
    rw [← Nat.add_assoc, powF]
    have h0 : n.testBit (blen n + d) = false := Nat.testBit_lt_two_pow (Nat.lt_of_lt_of_le (blen_lt n) (Nat.pow_le_pow_right (by decide) (by omega)))
    rw [h0, stepP_no (by decide +kernel)]
    exact ih

/-- a to the n, where there is one. -/
def powV (a : Nat) (n : Int) : Option Nat := if n < 0 then none else powF a n.toNat 63 1

theorem powV_neg {a : Nat} {n : Int} (h : n < 0) : powV a n = none := by rw [powV, if_pos h]
theorem powV_nat (a n : Nat) (h : blen n ≤ 63) : powV a (n : Int) = powF a n (blen n) 1 := by
  rw [powV, if_neg (by omega), Int.toNat_natCast]
  have := powF_lead a n (63 - blen n)
  rwa [show blen n + (63 - blen n) = 63 by omega] at this

/-- Where all powers up to n are small enough the power is there. -/
theorem powF_small {a n : Nat} (h : ∀ m, m ≤ n → big (a ^ m) = false) : ∀ i, powF a n i (a ^ (n / 2 ^ i)) = some (a ^ n) := by
  intro i
  induction i with
  | zero => rw [powF, Nat.pow_zero, Nat.div_one]
  | succ i ih =>
    have e : n / 2 ^ i = n / 2 ^ (i + 1) * 2 + (n / 2 ^ i) % 2 := by
      rw [Nat.pow_succ, ← Nat.div_div_eq_div_mul]; omega
    have hle : n / 2 ^ i ≤ n := Nat.div_le_self _ _
    have e1 : a ^ (n / 2 ^ (i + 1)) * a ^ (n / 2 ^ (i + 1)) = a ^ (n / 2 ^ (i + 1) * 2) := by rw [← Nat.pow_add]; congr 1; omega
    have h1 : big (a ^ (n / 2 ^ (i + 1) * 2)) = false := h _ (by omega)
    rcases Nat.mod_two_eq_zero_or_one (n / 2 ^ i) with hb | hb
    · have ht : n.testBit i = false := by rw [Nat.testBit_eq_decide_div_mod_eq, hb]; rfl
      rw [hb, Nat.add_zero] at e
      rw [powF, ht, stepP_no (by rw [e1]; exact h1), e1, ← e]
      exact ih
    · have ht : n.testBit i = true := by rw [Nat.testBit_eq_decide_div_mod_eq, hb]; rfl
      rw [hb] at e
      have e2 : a ^ (n / 2 ^ (i + 1) * 2) * a = a ^ (n / 2 ^ i) := by rw [e]; exact (Nat.pow_succ ..).symm
      rw [powF, ht, stepP_yes (by rw [e1]; exact h1) (by rw [e1, e2]; exact h _ hle), e1, e2]
      exact ih

theorem powV_small {a n : Nat} (hb : blen n ≤ 63) (h : ∀ m, m ≤ n → a ^ m < 4294967296 ^ 256) : powV a (n : Int) = some (a ^ n) := by
  have := powF_small (a := a) (n := n) (fun m hm => by simpa [big] using h m hm) (blen n)
  rw [Nat.div_eq_of_lt (blen_lt n), Nat.pow_zero] at this
  rw [powV_nat a n hb, this]

end Go.Proofs.YtjpoolddgocbbaaGreatDoor.Limb
namespace Go.Proofs.YtjpoolddgocbbaaGreatDoor
open Go.RowKit Limb
set_option linter.unusedVariables false

section
variable {w : World} {A A' : Option Addr} {n c n' c' : Nat} {xs ys : List Nat} {a b L L' : Nat}

theorem mulOf_c (hx : NN w A n c xs a L) (hy : NN w A' n' c' ys b L') (K : Nat) (h1 : L ≤ 100000000) (h2 : L' ≤ 100000000) (h3 : L + L' ≤ K) :
    Calls Tryz.prog 41 #[.slice A n c, .slice A' n' c'] w fun e w' => ∃ A2 n2 c2, e = .returned (.slice A2 n2 c2) ∧ NN w' A2 n2 c2 (limbs (a * b)) (a * b) K ∧ Below w.heap.size w w' := by
  have hlx := lt_pow hx
  have hly := lt_pow hy
  refine (mulOf_any A n c xs A' n' c' ys w hx.isN hy.isN (by have := hx.le; omega) (by have := hy.le; omega) hx.cap hy.cap).mono ?_
  rintro e w' ⟨A2, n2, c2, rfl, how, hb⟩
  rw [hx.val, hy.val] at how
  refine ⟨A2, n2, c2, rfl, NN.own how ?_, hb⟩
  have e1 : 4294967296 ^ (L + L') ≤ 4294967296 ^ K := Nat.pow_le_pow_right (by decide) h3
  rw [Nat.pow_add] at e1
  exact Nat.lt_of_lt_of_le (Nat.mul_lt_mul'' hlx hly) e1

theorem mulSmall_c (hx : NN w A n c xs a L) (v : Nat) (V : Int) (hV : V = v) (hv : v < 4294967296) (h1 : L ≤ 100000000) :
    Calls Tryz.prog 49 #[.slice A n c, .int .u32 V] w fun e w' => ∃ A2 n2 c2, e = .returned (.slice A2 n2 c2) ∧ NN w' A2 n2 c2 (limbs (a * v)) (a * v) (L + 1) ∧ Below w.heap.size w w' := by
  subst hV
  have hlx := lt_pow hx
  refine (mulSmall_any A n c xs v w hx.isN (by have := hx.le; omega) hx.cap hv).mono ?_
  rintro e w' ⟨A2, n2, c2, rfl, how, hb⟩
  rw [hx.val] at how
  refine ⟨A2, n2, c2, rfl, NN.own how ?_, hb⟩
  rw [Nat.pow_succ]
  exact Nat.mul_lt_mul'' hlx hv

theorem mulShift_c (hx : NN w A n c xs a L) (V : Int) (h0 : -9223372036854775808 ≤ V) (h2 : V ≤ 9223372036854775807) (v K : Nat) (hv : shiftV a V = v) (hk : v < 4294967296 ^ K) (h1 : L ≤ 90000000) :
    Calls Tryz.prog 101 #[.slice A n c, .int .i64 V] w fun e w' => ∃ A2 n2 c2, e = .returned (.slice A2 n2 c2) ∧ NN w' A2 n2 c2 (limbs v) v K ∧ Below w.heap.size w w' := by
  refine (mulShift_any A n c xs V w hx.isN (by have := hx.le; omega) hx.cap h0 h2).mono ?_
  rintro e w' ⟨A2, n2, c2, rfl, how, hb⟩
  rw [hx.val, hv] at how
  exact ⟨A2, n2, c2, rfl, NN.own how hk, hb⟩

theorem two_pow_le {t K : Nat} (h : t ≤ 32 * K) : 2 ^ t ≤ 4294967296 ^ K := by
  rw [pow32]; exact Nat.pow_le_pow_right (by decide) h

theorem shiftV_lt (hx : NN w A n c xs a L) (V : Int) : shiftV a V < 4294967296 ^ (L + 256) := by
  have hlx := lt_pow hx
  have h0 : 4294967296 ^ L ≤ 4294967296 ^ (L + 256) := Nat.pow_le_pow_right (by decide) (by omega)
  unfold shiftV
  split
  · exact Nat.pow_pos (by decide)
  · split
    · exact Nat.lt_of_le_of_lt (Nat.div_le_self _ _) (Nat.lt_of_lt_of_le hlx h0)
    · have h3 : 2 ^ (min V 8192).toNat ≤ 4294967296 ^ 256 := two_pow_le (by omega)
      rw [Nat.pow_add]
      exact Nat.lt_of_lt_of_le (Nat.mul_lt_mul_of_pos_right hlx (Nat.two_pow_pos _)) (Nat.mul_le_mul_left _ h3)

theorem mulShift_o (hx : NN w A n c xs a L) (V : Int) (h0 : -9223372036854775808 ≤ V) (h2 : V ≤ 9223372036854775807) (h1 : L ≤ 90000000) :
    Calls Tryz.prog 101 #[.slice A n c, .int .i64 V] w fun e w' => ∃ A2 n2 c2, e = .returned (.slice A2 n2 c2) ∧ NN w' A2 n2 c2 (limbs (shiftV a V)) (shiftV a V) (L + 256) ∧ Below w.heap.size w w' :=
  mulShift_c hx V h0 h2 _ _ rfl (shiftV_lt hx V) h1
end

theorem i64_bit (m i : Nat) (hm : m < 9223372036854775808) : (bits BinOp.and IntKind.i64 ((m : Int) / 2 ^ i) 1 == 1) = m.testBit i := by
  have e : (m : Int) / 2 ^ i = ((m / 2 ^ i : Nat) : Int) := by simp
  have h1 : m / 2 ^ i < 9223372036854775808 := Nat.lt_of_le_of_lt (Nat.div_le_self _ _) hm
  rw [e, Nat.testBit_eq_decide_div_mod_eq]
  generalize m / 2 ^ i = t at h1 ⊢
  have h2 : bits BinOp.and IntKind.i64 (t : Int) 1 = ((t % 2 : Nat) : Int) := by
    have ht : (BitVec.ofInt 64 (t : Int) &&& BitVec.ofInt 64 1).toNat = t % 2 := by
      rw [BitVec.toNat_and, ofInt_u64 t (by omega), show (BitVec.ofInt 64 1).toNat = 1 by decide, Nat.and_one_is_mod]
    show IntKind.i64.wrap ((BitVec.ofInt 64 (t : Int) &&& BitVec.ofInt 64 1).toNat : Int) = _
    rw [ht, IntKind.wrap_i64]
    omega
  rw [h2, Bool.eq_iff_iff]
  simp
  omega

theorem NN.len {w : World} {A : Option Addr} {n c : Nat} {xs : List Nat} {a L : Nat} (h : NN w A n c xs a L) : n = xs.length := h.isN.len.symm

theorem nn_big {w : World} {A : Option Addr} {n c a L : Nat} (h : NN w A n c (limbs a) a L) (hb : big a = true) : 256 < n := by rw [h.len]; exact big_yes hb
theorem nn_small {w : World} {A : Option Addr} {n c a L : Nat} (h : NN w A n c (limbs a) a L) (hb : big a = false) : n ≤ 256 := by rw [h.len]; exact length_limbs_le (big_no hb)

set_option maxHeartbeats 2000000 in
theorem mulPow_c {w : World} {A : Option Addr} {n c : Nat} {xs : List Nat} {a L : Nat} (hx : NN w A n c xs a L) (h1 : L ≤ 10000000) (V : Int) (h0 : -9223372036854775808 ≤ V) (h2 : V ≤ 9223372036854775807) (T : Option Nat) (hT : powV a V = T) :
    Calls Tryz.prog 87 #[.slice A n c, .int .i64 V] w fun e w' => ∃ A2 n2 c2, e = .returned (.tuple #[.slice A2 n2 c2, .bool T.isSome]) ∧ NN w' A2 n2 c2 (limbs (T.getD 0)) (T.getD 0) 256 ∧ Below w.heap.size w w' := by
  have hnil : ∀ w' : World, NN w' none 0 0 (limbs 0) 0 256 := fun w' => ⟨IsN.nil _ _, rfl, Nat.le_refl _, by omega⟩
  have Hnil := Lib.hid hnil
  clear hnil
  by_cases hneg : V < 0
  · have HT : RowKit.Hid (T = none) := by show _ = _; rw [← hT]; exact powV_neg hneg
    go_enter Tryz.func87, Tryz.ntmps87
    go_wp2
    go_ret2
    exact ⟨none, 0, 0, by rw [HT.out]; rfl, by rw [HT.out]; exact Hnil.out _, Below.refl _ _⟩
  · obtain ⟨m, rfl⟩ := Int.eq_ofNat_of_zero_le (show 0 ≤ V by omega)
    have hm : m < 9223372036854775808 := by omega
    have hb : blen m ≤ 63 := blen_le (by simpa using hm)
    rw [powV_nat a m hb] at hT
    have HT := Lib.hid hT
    clear hT hneg
    have hc1 := of_c 1 1 rfl (by decide) w
    have Hc1 := Lib.hid hc1
    clear hc1
    have Hlen := Lib.hid (len_any (m : Int))
    go_enter Tryz.func87, Tryz.ntmps87
    go_wp2_with fail
    refine Hc1.out.mono ?_
    rintro e w1 ⟨A1, n1, c1, rfl, hone, b1⟩
    have hone : NN w1 A1 n1 c1 (limbs 1) 1 256 := hone.relax (by
      have : 4294967296 ^ 1 ≤ 4294967296 ^ 256 := Nat.pow_le_pow_right (by decide) (by decide)
      omega)
    have h_x := hx.below b1
    clear hx
    go_wp2_with fail
    refine (Hlen.out w1 (by omega) (by omega)).mono ?_
    rintro e w2 ⟨rfl, rfl⟩
    rw [Int.toNat_natCast]
    go_wp2
    go_loopw [7, 6] (fun i ov wr => ∃ (j out : Nat) (A2 : Option Addr) (n2 c2 : Nat), j ≤ 63 ∧ i = .int .i64 ((j : Int) - 1) ∧ ov = .slice A2 n2 c2 ∧ RowKit.Hid (powF a m j out = T) ∧ NN wr A2 n2 c2 (limbs out) out 256 ∧ NN wr A n c xs a L ∧ Below w.heap.size w wr) (fun i _ _ => (intOf i + 1).toNat)
    case atStart => exact ⟨blen m, 1, A1, n1, c1, hb, rfl, rfl, HT, hone, h_x, b1⟩
    case round =>
      clear HT hone h_x b1
      obtain ⟨j, out, A2, n2, c2, hj, rfl, rfl, HT, ho, h_x, bw⟩ := hrel
      rcases j with _ | p
      · go_wp2
        go_ret2
        have e0 : T = some out := by have := HT.out; rw [powF] at this; exact this.symm
        exact ⟨A2, n2, c2, by rw [e0]; rfl, by rw [e0]; exact ho, bw⟩
      · have ep : (((p + 1 : Nat) : Int) - 1) = (p : Int) := by omega
        rw [ep]
        have hp : p ≤ 62 := by omega
        have hbit := i64_bit m p hm
        clear ep hj
        go_wp2_with fail
        refine (mulOf_c ho ho 512 (by decide) (by decide) (by decide)).mono ?_
        rintro e w3 ⟨A3, n3, c3, rfl, h3, bn⟩
        replace h_x := h_x.below bn
        replace bw := below_two bw bn
        clear bn ho
        have hn3 := h3.le
        by_cases hbig : big (out * out) = true
        · have hl3 := nn_big h3 hbig
          have HN := Lib.hid (powF_none HT.out (stepP_big hbig))
          clear hbig
          by_cases hbt : m.testBit p = true
          all_goals
            first
              | rw [hbt] at hbit
              | (have hbt : m.testBit p = false := by simpa using hbt
                 rw [hbt] at hbit)
            clear hbt
            go_wp2
            go_ret2
            exact ⟨none, 0, 0, by rw [HN.out]; rfl, by rw [HN.out]; exact Hnil.out _, bw⟩
        · have hbig : big (out * out) = false := by simpa using hbig
          have hl3 := nn_small h3 hbig
          by_cases hbt : m.testBit p = true
          · rw [hbt] at hbit
            have Hbt := Lib.hid hbt
            have Hbig := Lib.hid hbig
            clear hbt hbig
            go_wp2_with fail
            refine (mulOf_c h3 h_x (512 + L) (by decide) (by omega) (Nat.le_refl _)).mono ?_
            rintro e w4 ⟨A4, n4, c4, rfl, h4, bn⟩
            replace h_x := h_x.below bn
            replace bw := below_two bw bn
            clear bn h3
            have hn4 := h4.le
            by_cases hb2 : big (out * out * a) = true
            · have hl4 := nn_big h4 hb2
              have HN := Lib.hid (powF_none HT.out (by rw [Hbt.out]; exact stepP_over Hbig.out hb2))
              clear hb2
              go_wp2
              go_ret2
              exact ⟨none, 0, 0, by rw [HN.out]; rfl, by rw [HN.out]; exact Hnil.out _, bw⟩
            · have hb2 : big (out * out * a) = false := by simpa using hb2
              have hl4 := nn_small h4 hb2
              have HN := Lib.hid (powF_some HT.out (by rw [Hbt.out]; exact stepP_yes Hbig.out hb2))
              have h5 := h4.relax (big_no hb2)
              clear hb2 h4
              go_wp2
              go_roundw
              case rel => exact ⟨p, _, A4, n4, c4, by omega, by go_num, rfl, HN, h5, h_x, bw⟩
              case measure => simp [intOf]
          · have hbt : m.testBit p = false := by simpa using hbt
            rw [hbt] at hbit
            have HN := Lib.hid (powF_some HT.out (by rw [hbt]; exact stepP_no hbig))
            have h5 := h3.relax (big_no hbig)
            clear hbt hbig h3
            go_wp2
            go_roundw
            case rel => exact ⟨p, _, A3, n3, c3, by omega, by go_num, rfl, HN, h5, h_x, bw⟩
            case measure => simp [intOf]

end Go.Proofs.YtjpoolddgocbbaaGreatDoor

/- What the reference's Small and Up of layer 2 come to, as contracts over memory: a number times one limb, moved by bits, in shortest limbs. Conditions: the list reads as limbs, of at most 10^7 of them; moves of at most 10^7 bits. -/
namespace Go.Proofs.YtjpoolddgocbbaaGreatDoor.Limb

/-- Limbs of a product with one limb, made one by one: those made so far, and what goes on. -/
def RSmall (xs zs : List Nat) (v k c : Nat) : Prop := zs.length = k ∧ Small zs ∧ val zs + c * 4294967296 ^ k = val (xs.take k) * v ∧ c < 4294967296

theorem RSmall.start (xs : List Nat) (v : Nat) : RSmall xs [] v 0 0 := ⟨rfl, small_nil, by simp [val], by omega⟩
theorem RSmall.step {xs zs : List Nat} {v k c lo hi : Nat} (h : RSmall xs zs v k c) (hx : Small xs) (hv : v < 4294967296) (hlo : lo < 4294967296) (e : lo + hi * 4294967296 = c + lim xs k * v) : RSmall xs (zs ++ [lo]) v (k + 1) hi := by
  obtain ⟨h1, h2, h3, h4⟩ := h
  refine ⟨by simp [h1], small_append.2 ⟨h2, by intro x hx; simp at hx; omega⟩, ?_, ?_⟩
  · rw [val_append, h1, val_take_lim, Nat.pow_succ]
    have := row_step (S := val zs) (Q := 0) (X := val (xs.take k)) (x := lim xs k) (v := v) (p := 0) (cr := c) (P := 4294967296 ^ k) (lo := lo) (hi := hi) (by rw [h3, Nat.zero_add, Nat.mul_comm]) (by rw [e, Nat.add_zero])
    simp only [val, Nat.mul_zero, Nat.add_zero, Nat.zero_add] at this ⊢
    rw [this, Nat.mul_comm]
  · have := limb_prod (lim_lt hx k) hv
    omega
theorem RSmall.done {xs zs : List Nat} {v k c : Nat} (h : RSmall xs zs v k c) (hx : xs.length = k) : Small (zs ++ [c]) ∧ val (zs ++ [c]) = val xs * v := by
  obtain ⟨h1, h2, h3, h4⟩ := h
  refine ⟨small_append.2 ⟨h2, by intro x hx; simp at hx; omega⟩, ?_⟩
  rw [List.take_of_length_le (by omega)] at h3
  rw [val_append, h1, ← h3, Nat.mul_comm c]
  simp [val]

/-- Limbs of a number moved up, made one by one behind q noughts. -/
def RUp (xs zs : List Nat) (q r k c : Nat) : Prop := zs.length = q + k ∧ Small zs ∧ val zs + c * 4294967296 ^ (q + k) = 4294967296 ^ q * val (xs.take k) * 2 ^ r ∧ c < 2 ^ r

theorem RUp.start (xs : List Nat) (q r : Nat) : RUp xs (List.replicate q 0) q r 0 0 := by
  refine ⟨by simp, small_zeros q, ?_, Nat.two_pow_pos _⟩
  have := val_zeros q []
  rw [List.append_nil] at this
  rw [this]; simp [val]
theorem RUp.step {xs zs : List Nat} {q r k c lo hi : Nat} (h : RUp xs zs q r k c) (hx : Small xs) (hlo : lo < 4294967296) (e : lo + hi * 4294967296 = c + lim xs k * 2 ^ r) : RUp xs (zs ++ [lo]) q r (k + 1) hi := by
  obtain ⟨h1, h2, h3, h4⟩ := h
  refine ⟨by simp [h1]; omega, small_append.2 ⟨h2, by intro x hx; simp at hx; omega⟩, ?_, ?_⟩
  · rw [val_append, h1, val_take_lim, ← Nat.add_assoc, Nat.pow_succ]
    have := row_step (S := val zs) (Q := 0) (X := 4294967296 ^ q * val (xs.take k)) (x := lim xs k) (v := 2 ^ r) (p := 0) (cr := c) (P := 4294967296 ^ (q + k)) (lo := lo) (hi := hi) (by rw [h3, Nat.zero_add, Nat.mul_comm]) (by rw [e, Nat.add_zero])
    simp only [val, Nat.mul_zero, Nat.add_zero, Nat.zero_add] at this ⊢
    have e2 : 4294967296 ^ (q + k) * lim xs k = 4294967296 ^ q * (4294967296 ^ k * lim xs k) := by rw [Nat.pow_add, Nat.mul_assoc]
    rw [this, e2, ← Nat.mul_add, Nat.mul_comm]
  · have h5 : lim xs k * 2 ^ r ≤ 4294967295 * 2 ^ r := Nat.mul_le_mul_right _ (by have := lim_lt hx k; omega)
    omega
theorem RUp.done {xs zs : List Nat} {q r k c : Nat} (h : RUp xs zs q r k c) (hx : xs.length = k) (hr : r < 32) : Small (zs ++ [c]) ∧ val (zs ++ [c]) = 4294967296 ^ q * val xs * 2 ^ r := by
  obtain ⟨h1, h2, h3, h4⟩ := h
  have hc : c < 4294967296 := by
    have : 2 ^ r < 2 ^ 32 := Nat.pow_lt_pow_right (by decide) hr
    omega
  refine ⟨small_append.2 ⟨h2, by intro x hx; simp at hx; omega⟩, ?_⟩
  rw [List.take_of_length_le (by omega)] at h3
  rw [val_append, h1, ← h3, Nat.mul_comm c]
  simp [val]

theorem RUp.or {c x r : Nat} (h : c < 2 ^ r) : c ||| x * 2 ^ r = c + x * 2 ^ r := by
  rw [Nat.or_comm, Nat.mul_comm, ← Nat.two_pow_add_eq_or_of_lt h]
  omega

end Go.Proofs.YtjpoolddgocbbaaGreatDoor.Limb
namespace Go.Proofs.YtjpoolddgocbbaaGreatDoor
open Go.RowKit Limb
set_option linter.unusedVariables false

set_option maxHeartbeats 800000 in
theorem refSmall_c {A : Option Addr} {n c : Nat} {xs : List Nat} {a L : Nat} {w : World} (hx : NN w A n c xs a L) (v : Nat) (V : Int) (hV : V = v) (hv : v < 4294967296) (h1 : L ≤ 100000000) :
    Calls Tryz.prog 55 #[.slice A n c, .int .u32 V] w fun e w' => ∃ A2 n2 c2, e = .returned (.slice A2 n2 c2) ∧ NN w' A2 n2 c2 (limbs (a * v)) (a * v) (L + 1) ∧ Below w.heap.size w w' := by
  subst hV
  have hle := hx.le
  have Hlx := Lib.hid hx.isN.len
  have hsx := hx.isN.small
  go_enter Tryz.func55, Tryz.ntmps55
  go_wp2
  go_loopw [7, 6, 5] (fun i cy ov wr => ∃ (k cr : Nat) (zs : List Nat) (A2 : Option Addr) (c2 : Nat), k ≤ n ∧ i = .int .i64 (k : Int) ∧ cy = .int .u64 (cr : Int) ∧ ov = .slice A2 k c2 ∧ RowKit.Hid (RSmall xs zs v k cr) ∧ OwnN wr w.heap.size A2 k c2 zs ∧ Below w.heap.size w wr) (fun i _ _ _ => n - (intOf i).toNat)
  case atStart => exact ⟨0, 0, [], none, 0, by omega, rfl, rfl, rfl, RSmall.start _ _, OwnN.nil _ _, Below.refl _ _⟩
  case round =>
    obtain ⟨k, cr, zs, A2, c2, hk, rfl, rfl, rfl, Hinv, how, bw⟩ := hrel
    have hcr := Hinv.out.2.2.2
    by_cases hgo : k < n
    · obtain ⟨b1, o1, rfl, hb1, hc1⟩ := hx.isN.2.2 (by omega)
      have hcell : wr.cell? ⟨b1, o1 + k, none⟩ = some (.int .u32 ((lim xs k : Nat) : Int)) := (bw.cell (p := ⟨b1, o1 + k, none⟩) hb1).trans (hc1 k hgo)
      have l1 := lim_lt hsx k
      have hq := limb_prod l1 hv
      have eI : ((lim xs k * v : Nat) : Int) = ((lim xs k : Nat) : Int) * (v : Int) := Int.natCast_mul _ _
      have hq1 : ((lim xs k : Nat) : Int) * (v : Int) ≤ 18446744065119617025 := by omega
      have hq0 : 0 ≤ ((lim xs k : Nat) : Int) * (v : Int) := by omega
      obtain ⟨sl, hsl⟩ : ∃ sl, sl = (cr + lim xs k * v) % 4294967296 := ⟨_, rfl⟩
      obtain ⟨sh, hsh⟩ : ∃ sh, sh = (cr + lim xs k * v) / 4294967296 := ⟨_, rfl⟩
      have es : ((cr : Int) + ((lim xs k : Nat) : Int) * (v : Int)) % 4294967296 = ((sl : Nat) : Int) := by omega
      have eh : ((cr : Int) + ((lim xs k : Nat) : Int) * (v : Int)) / 4294967296 = ((sh : Nat) : Int) := by omega
      have hsl2 : sl < 4294967296 := by omega
      have Hst : RowKit.Hid (RSmall xs (zs ++ [sl]) v (k + 1) sh) := Hinv.out.step hsx hv hsl2 (by omega)
      have Hown : RowKit.Hid ((wr.alloc (.cells #[Value.int IntKind.u32 (sl : Int)] 38)).ownsRow w.heap.size 38 1 (.slice A2 k c2) k (zs.map limV)) := (how.alloc _).row
      have Hlit : RowKit.Hid (NN (wr.alloc (.cells #[Value.int IntKind.u32 (sl : Int)] 38)) (some ⟨wr.heap.size, 0, none⟩) 1 1 [sl] (val [sl]) 1) := lit_c wr [sl] (by intro x hx; simp at hx; omega) 1 rfl
      have Hb : RowKit.Hid (k ≤ 1000000000 ∧ 1 ≤ 1000000000 ∧ w.heap.size ≤ (wr.alloc (.cells #[Value.int IntKind.u32 (sl : Int)] 38)).heap.size ∧ Small zs) := ⟨by omega, by omega, by have := bw.size; simp; omega, how.small⟩
      have How := Lib.hid how
      have Hbw := Lib.hid bw
      clear hq eI hsl hsh hsl2 how bw
      go_wp2_with (at_builtin; refine wpList_append_nat rfl _ _ rfl w.heap.size _ k zs rfl Hown (some ⟨wr.heap.size, 0, none⟩) 1 1 [sl] (val [sl]) 1 rfl Hlit Hb ?_)
      intro A3 c3 w3 how3 hg3
      have bw3 := below_grown Hbw.out How.out hg3.out
      have How3 := how3.out
      clear how3 hg3 Hown Hlit Hb How Hbw
      go_wp2
      go_roundw
      case rel => exact ⟨k + 1, sh, zs ++ [sl], A3, c3, by omega, by go_num, rfl, rfl, Hst, How3, bw3⟩
      case measure => simp [intOf]; omega
    · obtain rfl : k = n := by omega
      have Hd := Lib.hid (Hinv.out.done Hlx.out)
      have Hown : RowKit.Hid ((wr.alloc (.cells #[Value.int IntKind.u32 (cr : Int)] 38)).ownsRow w.heap.size 38 1 (.slice A2 k c2) k (zs.map limV)) := (how.alloc _).row
      have Hlit : RowKit.Hid (NN (wr.alloc (.cells #[Value.int IntKind.u32 (cr : Int)] 38)) (some ⟨wr.heap.size, 0, none⟩) 1 1 [cr] (val [cr]) 1) := lit_c wr [cr] (by intro x hx; simp at hx; omega) 1 rfl
      have Hb : RowKit.Hid (k ≤ 1000000000 ∧ 1 ≤ 1000000000 ∧ w.heap.size ≤ (wr.alloc (.cells #[Value.int IntKind.u32 (cr : Int)] 38)).heap.size ∧ Small zs) := ⟨by omega, by omega, by have := bw.size; simp; omega, how.small⟩
      have How := Lib.hid how
      have Hbw := Lib.hid bw
      have hav : val xs = a := hx.val
      clear how bw
      go_wp2_with (at_builtin; refine wpList_append_nat rfl _ _ rfl w.heap.size _ k zs rfl Hown (some ⟨wr.heap.size, 0, none⟩) 1 1 [cr] (val [cr]) 1 rfl Hlit Hb ?_)
      intro A3 c3 w3 how3 hg3
      have bw3 := below_grown Hbw.out How.out hg3.out
      have hz : NN w3 A3 (k + 1) c3 (zs ++ [cr]) (a * v) (L + 1) := ⟨how3.out.isN, by rw [Hd.out.2, hav], how3.out.caps.1, by omega⟩
      clear how3 hg3 Hown Hlit Hb How Hbw hav
      go_wp2_with fail
      refine (refTrim_c hz (by omega)).mono ?_
      rintro e w4 ⟨A4, n4, c4, rfl, h4, bn⟩
      go_wp2
      go_ret
      exact ⟨_, _, _, rfl, h4, below_two bw3 bn⟩

/-- Making a row of limbs with room. -/
theorem run_made2 (V C : Int) (n cap : Nat) (hV : V = n) (hC : C = cap) (hn : n ≤ cap) (hc : cap ≤ 2000000000) (W : World) : (Instr.makeSlice 24 (.int .i64 V) (.int .i64 C)).run Tryz.prog W = .ok (.slice (some ⟨W.heap.size, 0, none⟩) n cap) (W.alloc (.cells (madeCells #[.int .u32 0] cap) 38)) := by
  subst hV
  subst hC
  obtain ⟨i0, hi, hz0, hz1, hz2⟩ := info_parts u32_info
  have h := run_make (P := Tryz.prog) W 24 38 i0 (.int .u32 0) Tryz.underlying24 hi hz0 .i64 .i64 (n : Int) (cap : Int) (by omega) (by omega) (by rw [hz2]; omega) (by omega)
  rw [hz1] at h
  rw [Int.toNat_natCast, Int.toNat_natCast, Nat.mul_one] at h
  exact h

/-- A row that was made just now, with room. -/
theorem own_made2 (w : World) (n cap : Nat) (hn : n ≤ cap) (hc : cap ≤ 2000000000) : OwnN (w.alloc (.cells (madeCells #[.int .u32 0] cap) 38)) w.heap.size (some ⟨w.heap.size, 0, none⟩) n cap (List.replicate n 0) := by
  have Hg : (w.alloc (.cells (madeCells #[.int .u32 0] cap) 38)).heap[w.heap.size]? = some (.cells (List.replicate cap (Value.int .u32 0)).toArray 38 (0, 0)) := by
    rw [heap_alloc_new, ← toList_madeCells_one]
  refine ⟨⟨by simp, .inr ⟨w.heap.size, cap, _, rfl, Nat.le_refl _, Hg, hn, by unfold maxLen; omega, ?_, ?_⟩⟩, small_zeros _⟩
  · simp
  · simp [limV, List.take_replicate, Nat.min_eq_left hn]

set_option maxHeartbeats 800000 in
theorem refUp_o {A : Option Addr} {n c : Nat} {xs : List Nat} {a L : Nat} {w : World} (hx : NN w A n c xs a L) (m : Nat) (V : Int) (hV : V = m) (hm : m ≤ 100000000) (h1 : L ≤ 100000000) :
    Calls Tryz.prog 92 #[.slice A n c, .int .i64 V] w fun e w' => ∃ A2 n2 c2, e = .returned (.slice A2 n2 c2) ∧ OwnN w' w.heap.size A2 n2 c2 (limbs (a * 2 ^ m)) ∧ Below w.heap.size w w' := by
  subst hV
  obtain ⟨q, hq⟩ : ∃ q, q = m / 32 := ⟨_, rfl⟩
  obtain ⟨r, hr⟩ : ∃ r, r = m % 32 := ⟨_, rfl⟩
  have Hmv : RowKit.Hid (4294967296 ^ q * a * 2 ^ r = a * 2 ^ m) := by show _ = _; rw [hq, hr, Nat.mul_assoc]; exact pow_split _ _
  have eq1 : (m : Int) / 32 = (q : Int) := by omega
  have er1 : (m : Int) % 32 = (r : Int) := by omega
  have hr32 : r < 32 := by omega
  have hq3 : q ≤ 3125000 := by omega
  have hle := hx.le
  have Hlx := Lib.hid hx.isN.len
  have hsx := hx.isN.small
  have hav : RowKit.Hid (val xs = a) := hx.val
  clear hq hr
  have hmk := run_made2 (q : Int) ((q : Int) + (n : Int) + 1) q (q + n + 1) rfl (by omega) (by omega) (by omega)
  have Hs := Lib.hid (own_made2 w q (q + n + 1) (by omega) (by omega))
  have Hb0 := Lib.hid (below_new w (.cells (madeCells #[.int .u32 0] (q + n + 1)) 38))
  go_enter Tryz.func92, Tryz.ntmps92
  go_wp2
  go_loopw [7, 6, 5] (fun i cy ov wr => ∃ (k cr : Nat) (zs : List Nat) (A2 : Option Addr) (c2 : Nat), k ≤ n ∧ i = .int .i64 (k : Int) ∧ cy = .int .u64 (cr : Int) ∧ ov = .slice A2 (q + k) c2 ∧ RowKit.Hid (RUp xs zs q r k cr) ∧ RowKit.Hid (OwnN wr w.heap.size A2 (q + k) c2 zs) ∧ RowKit.Hid (Below w.heap.size w wr)) (fun i _ _ _ => n - (intOf i).toNat)
  case atStart => exact ⟨0, 0, List.replicate q 0, _, _, by omega, rfl, rfl, rfl, RUp.start _ _ _, Hs, Hb0⟩
  case round =>
    clear Hs Hb0 hmk
    obtain ⟨k, cr, zs, A2, c2, hk, rfl, rfl, rfl, Hinv, How0, Hbw0⟩ := hrel
    have how := How0.out
    have bw := Hbw0.out
    clear How0 Hbw0
    have hcr0 := Hinv.out.2.2.2
    have hr2 := two_pow_small r hr32
    have hcr : cr < 4294967296 := by omega
    by_cases hgo : k < n
    · obtain ⟨b1, o1, rfl, hb1, hc1⟩ := hx.isN.2.2 (by omega)
      have hcell : wr.cell? ⟨b1, o1 + k, none⟩ = some (.int .u32 ((lim xs k : Nat) : Int)) := (bw.cell (p := ⟨b1, o1 + k, none⟩) hb1).trans (hc1 k hgo)
      have l1 := lim_lt hsx k
      have hpr := limb_prod l1 hr2
      obtain ⟨s, hs⟩ : ∃ s, s = cr + lim xs k * 2 ^ r := ⟨_, rfl⟩
      have e2 : ((lim xs k : Nat) : Int) * 2 ^ r = ((lim xs k * 2 ^ r : Nat) : Int) := by rw [Int.natCast_mul, Int.natCast_pow]; rfl
      have e3 : IntKind.u64.wrap (((lim xs k : Nat) : Int) * 2 ^ r) = ((lim xs k * 2 ^ r : Nat) : Int) := by
        rw [e2, IntKind.wrap_u64]
        generalize lim xs k * 2 ^ r = t at hpr ⊢
        omega
      have hor : bits BinOp.or IntKind.u64 (cr : Int) (IntKind.u64.wrap (((lim xs k : Nat) : Int) * 2 ^ r)) = (s : Int) := by
        rw [e3, u64_or_nat _ _ (by omega) (by omega), RUp.or hcr0, ← hs]
      clear e2 e3
      have hs2 : s < 18446744073709551616 := by
        rw [hs]
        generalize lim xs k * 2 ^ r = t at hpr ⊢
        omega
      obtain ⟨sl, hsl⟩ : ∃ sl, sl = s % 4294967296 := ⟨_, rfl⟩
      obtain ⟨sh, hsh⟩ : ∃ sh, sh = s / 4294967296 := ⟨_, rfl⟩
      have es : (s : Int) % 4294967296 = ((sl : Nat) : Int) := by omega
      have eh : (s : Int) / 4294967296 = ((sh : Nat) : Int) := by omega
      have hsl2 : sl < 4294967296 := by omega
      have Hst : RowKit.Hid (RUp xs (zs ++ [sl]) q r (k + 1) sh) := Hinv.out.step hsx hsl2 (by rw [← hs]; omega)
      have hqk : q + k ≤ 200000000 := by omega
      have Hown : RowKit.Hid ((wr.alloc (.cells #[Value.int IntKind.u32 (sl : Int)] 38)).ownsRow w.heap.size 38 1 (.slice A2 (q + k) c2) (q + k) (zs.map limV)) := (how.alloc _).row
      have Hlit : RowKit.Hid (NN (wr.alloc (.cells #[Value.int IntKind.u32 (sl : Int)] 38)) (some ⟨wr.heap.size, 0, none⟩) 1 1 [sl] (val [sl]) 1) := lit_c wr [sl] (by intro x hx; simp at hx; omega) 1 rfl
      have Hb : RowKit.Hid ((q + k) ≤ 1000000000 ∧ 1 ≤ 1000000000 ∧ w.heap.size ≤ (wr.alloc (.cells #[Value.int IntKind.u32 (sl : Int)] 38)).heap.size ∧ Small zs) := ⟨by omega, by omega, by have := bw.size; simp; omega, how.small⟩
      have How := Lib.hid how
      have Hbw := Lib.hid bw
      clear hpr hs hsl hsh hsl2 how bw hcr0 hr2 Hinv
      go_wp2_with (at_builtin; refine wpList_append_nat rfl _ _ rfl w.heap.size _ (q + k) zs rfl Hown (some ⟨wr.heap.size, 0, none⟩) 1 1 [sl] (val [sl]) 1 rfl Hlit Hb ?_)
      intro A3 c3 w3 how3 hg3
      have bw3 := below_grown Hbw.out How.out hg3.out
      have How3 := Lib.hid how3.out
      have Bw3 := Lib.hid bw3
      clear how3 hg3 Hown Hlit Hb How Hbw bw3
      go_wp2
      go_roundw
      case rel => exact ⟨k + 1, sh, zs ++ [sl], A3, c3, by omega, by go_num, rfl, rfl, Hst, How3, Bw3⟩
      case measure => simp [intOf]; omega
    · obtain rfl : k = n := by omega
      have Hd := Lib.hid (Hinv.out.done Hlx.out hr32)
      have hqk : q + k ≤ 200000000 := by omega
      have Hown : RowKit.Hid ((wr.alloc (.cells #[Value.int IntKind.u32 (cr : Int)] 38)).ownsRow w.heap.size 38 1 (.slice A2 (q + k) c2) (q + k) (zs.map limV)) := (how.alloc _).row
      have Hlit : RowKit.Hid (NN (wr.alloc (.cells #[Value.int IntKind.u32 (cr : Int)] 38)) (some ⟨wr.heap.size, 0, none⟩) 1 1 [cr] (val [cr]) 1) := lit_c wr [cr] (by intro x hx; simp at hx; omega) 1 rfl
      have Hb : RowKit.Hid ((q + k) ≤ 1000000000 ∧ 1 ≤ 1000000000 ∧ w.heap.size ≤ (wr.alloc (.cells #[Value.int IntKind.u32 (cr : Int)] 38)).heap.size ∧ Small zs) := ⟨by omega, by omega, by have := bw.size; simp; omega, how.small⟩
      have How := Lib.hid how
      have Hbw := Lib.hid bw
      clear how bw hcr0 hr2 Hinv
      go_wp2_with (at_builtin; refine wpList_append_nat rfl _ _ rfl w.heap.size _ (q + k) zs rfl Hown (some ⟨wr.heap.size, 0, none⟩) 1 1 [cr] (val [cr]) 1 rfl Hlit Hb ?_)
      intro A3 c3 w3 how3 hg3
      have bw3 := below_grown Hbw.out How.out hg3.out
      have hv : val (zs ++ [cr]) = a * 2 ^ m := by rw [Hd.out.2, hav.out, Hmv.out]
      have hz : NN w3 A3 (q + k + 1) c3 (zs ++ [cr]) (a * 2 ^ m) 1000000000 := ⟨how3.out.isN, hv, how3.out.caps.1, by omega⟩
      clear how3 hg3 Hown Hlit Hb How Hbw hv
      go_wp2_with fail
      refine (refTrim_o hz (by omega)).mono ?_
      rintro e w4 ⟨A4, n4, c4, rfl, h4, bn⟩
      go_wp2
      go_ret
      exact ⟨_, _, _, rfl, h4.mono bw3.size, below_two bw3 bn⟩

theorem refUp_c {A : Option Addr} {n c : Nat} {xs : List Nat} {a L : Nat} {w : World} (hx : NN w A n c xs a L) (m : Nat) (V : Int) (hV : V = m) (hm : m ≤ 100000000) (h1 : L ≤ 100000000) (K : Nat) (hK : a * 2 ^ m < 4294967296 ^ K) :
    Calls Tryz.prog 92 #[.slice A n c, .int .i64 V] w fun e w' => ∃ A2 n2 c2, e = .returned (.slice A2 n2 c2) ∧ NN w' A2 n2 c2 (limbs (a * 2 ^ m)) (a * 2 ^ m) K ∧ Below w.heap.size w w' := by
  refine (refUp_o hx m V hV hm h1).mono ?_
  rintro e w' ⟨A2, n2, c2, rfl, how, hb⟩
  exact ⟨A2, n2, c2, rfl, NN.own how hK, hb⟩

end Go.Proofs.YtjpoolddgocbbaaGreatDoor

/- What the reference's Down and Shift of layer 2 come to, as contracts over memory: a number moved by bits, in shortest limbs. Conditions: the list reads as limbs, of at most 9*10^7 of them. -/
namespace Go.Proofs.YtjpoolddgocbbaaGreatDoor
open Go.RowKit Limb
set_option linter.unusedVariables false

theorem down_or {a b r : Nat} (ha : a < 4294967296) : (a ||| b * 4294967296) / 2 ^ r % 4294967296 = a / 2 ^ r ||| b * 2 ^ (32 - r) % 4294967296 ∨ 32 ≤ r := by
  by_cases hr : 32 ≤ r
  · exact .inr hr
  refine .inl (Nat.eq_of_testBit_eq fun i => ?_)
  rw [show (4294967296 : Nat) = 2 ^ 32 from rfl, Nat.testBit_mod_two_pow, Nat.testBit_div_two_pow, Nat.testBit_or, Nat.testBit_mul_two_pow, Nat.testBit_or, Nat.testBit_div_two_pow, Nat.testBit_mod_two_pow, Nat.testBit_mul_two_pow]
  by_cases hi : i < 32
  · by_cases hc : i + r < 32
    · have e1 : ¬ (32 ≤ i + r) := by omega
      have e2 : ¬ (32 - r ≤ i) := by omega
      simp [hi, e1, e2]
    · have e1 : 32 ≤ i + r := by omega
      have e2 : 32 - r ≤ i := by omega
      have e3 : i + r - 32 = i - (32 - r) := by omega
      simp [hi, e1, e2, e3]
  · have e4 : a.testBit (i + r) = false := Nat.testBit_lt_two_pow (Nat.lt_of_lt_of_le ha (by
      have : 2 ^ 32 ≤ 2 ^ (i + r) := Nat.pow_le_pow_right (by decide) (by omega)
      simpa using this))
    simp [hi, e4]

theorem down_lim {ys : List Nat} {r j : Nat} (hy : Small ys) (hr : r < 32) : (lim ys j ||| lim ys (j + 1) * 4294967296) / 2 ^ r % 4294967296 = downLimb ys r j := by
  rcases down_or (a := lim ys j) (b := lim ys (j + 1)) (r := r) (lim_lt hy j) with h | h
  · exact h
  · omega

/-- Limbs of a number moved down, made one by one. -/
def RDown (ys zs : List Nat) (r k : Nat) : Prop := zs.length = k ∧ ∀ j, j < k → lim zs j = downLimb ys r j
theorem RDown.start (ys : List Nat) (r : Nat) : RDown ys [] r 0 := ⟨rfl, fun j hj => by omega⟩
theorem lim_append_lt {zs us : List Nat} {j : Nat} (h : j < zs.length) : lim (zs ++ us) j = lim zs j := by
  simp [lim, List.getD_eq_getElem?_getD, List.getElem?_append_left h]
theorem lim_append_at {zs : List Nat} {u : Nat} : lim (zs ++ [u]) zs.length = u := by
  simp [lim, List.getD_eq_getElem?_getD]
theorem RDown.step {ys zs : List Nat} {r k v : Nat} (h : RDown ys zs r k) (hv : v = downLimb ys r k) : RDown ys (zs ++ [v]) r (k + 1) := by
  obtain ⟨h1, h2⟩ := h
  refine ⟨by simp [h1], fun j hj => ?_⟩
  by_cases e : j = k
  · subst e; rw [← h1, lim_append_at, h1, hv]
  · rw [lim_append_lt (by omega)]; exact h2 j (by omega)

set_option maxHeartbeats 1600000 in
theorem refDown_o {A : Option Addr} {n c : Nat} {xs : List Nat} {a L : Nat} {w : World} (hx : NN w A n c xs a L) (m : Nat) (V : Int) (hV : V = m) (hm : m ≤ 100000000) (h1 : L ≤ 100000000) :
    Calls Tryz.prog 117 #[.slice A n c, .int .i64 V] w fun e w' => ∃ A2 n2 c2, e = .returned (.slice A2 n2 c2) ∧ OwnN w' w.heap.size A2 n2 c2 (limbs (a / 2 ^ m)) ∧ Below w.heap.size w w' := by
  subst hV
  obtain ⟨q, hq⟩ : ∃ q, q = m / 32 := ⟨_, rfl⟩
  obtain ⟨r, hr⟩ : ∃ r, r = m % 32 := ⟨_, rfl⟩
  have Hmv : RowKit.Hid (a / 4294967296 ^ q / 2 ^ r = a / 2 ^ m) := by show _ = _; rw [hq, hr]; exact div_move _ _
  have eq1 : (m : Int) / 32 = (q : Int) := by omega
  have er1 : (m : Int) % 32 = (r : Int) := by omega
  have hr32 : r < 32 := by omega
  have hq3 : q ≤ 3125000 := by omega
  have hle := hx.le
  have Hlx := Lib.hid hx.isN.len
  have hsx := hx.isN.small
  have hav : RowKit.Hid (val xs = a) := hx.val
  have hsy : Small (xs.drop q) := small_drop hsx q
  have hly : RowKit.Hid (∀ j, lim (xs.drop q) j = lim xs (q + j)) := fun j => lim_drop xs q j
  have hlen : RowKit.Hid ((xs.drop q).length = n - q) := by show _ = _; rw [List.length_drop, Hlx.out]
  have Hend : RowKit.Hid (∀ zs : List Nat, Small zs → RDown (xs.drop q) zs r (n - q) → val zs = a / 2 ^ m) := by
    intro zs hz h
    have e1 := val_down hsy hz hr32 (by rw [h.1, hlen.out]) (fun j hj => h.2 j (by rw [← hlen.out]; exact hj))
    by_cases hqn : q ≤ n
    · rw [e1, val_drop hsx q (by rw [Hlx.out]; exact hqn), hav.out, Hmv.out]
    · have e2 : xs.drop q = [] := List.drop_of_length_le (by rw [Hlx.out]; omega)
      have h3 := lt_pow hx
      have h4 : a < 4294967296 ^ q := by
        rw [← hav.out]
        have h5 := val_lt hsx
        rw [Hlx.out] at h5
        exact Nat.lt_of_lt_of_le h5 (Nat.pow_le_pow_right (by decide) (by omega))
      rw [e1, e2, ← Hmv.out, Nat.div_eq_of_lt h4]
      rfl
  obtain ⟨ys, hys⟩ : ∃ ys, ys = xs.drop q := ⟨_, rfl⟩
  rw [← hys] at hsy hly hlen Hend
  clear hq hr hys
  go_enter Tryz.func117, Tryz.ntmps117
  go_wp2
  go_loopw [6, 5] (fun i ov wr => ∃ (k : Nat) (zs : List Nat) (A2 : Option Addr) (c2 : Nat), k ≤ n - q ∧ i = .int .i64 ((q : Int) + (k : Int)) ∧ ov = .slice A2 k c2 ∧ RowKit.Hid (RDown ys zs r k) ∧ RowKit.Hid (OwnN wr w.heap.size A2 k c2 zs) ∧ RowKit.Hid (Below w.heap.size w wr)) (fun i _ _ => n - (intOf i).toNat)
  case atStart => exact ⟨0, [], none, 0, by omega, by go_num, rfl, RDown.start _ _, OwnN.nil _ _, Below.refl _ _⟩
  case round =>
    obtain ⟨k, zs, A2, c2, hk, rfl, rfl, Hinv, How0, Hbw0⟩ := hrel
    have how := How0.out
    have bw := Hbw0.out
    clear How0 Hbw0
    by_cases hgo : q + k < n
    · obtain ⟨b1, o1, rfl, hb1, hc1⟩ := hx.isN.2.2 (by omega)
      have e0 : ((q : Int) + (k : Int)) = ((q + k : Nat) : Int) := by omega
      rw [e0]
      obtain ⟨t, ht⟩ : ∃ t, t = q + k := ⟨_, rfl⟩
      rw [← ht] at hgo ⊢
      clear e0
      have hcell : wr.cell? ⟨b1, o1 + t, none⟩ = some (.int .u32 ((lim xs t : Nat) : Int)) := (bw.cell (p := ⟨b1, o1 + t, none⟩) hb1).trans (hc1 t hgo)
      have l1 := lim_lt hsx t
      have l2 := lim_lt hsx (t + 1)
      have Hq : RowKit.Hid (lim ys k = lim xs t ∧ lim ys (k + 1) = lim xs (t + 1)) := ⟨by rw [hly.out, ht], by rw [hly.out, ht]; rfl⟩
      have Hdl : RowKit.Hid ((lim xs t ||| lim xs (t + 1) * 4294967296) / 2 ^ r % 4294967296 = downLimb ys r k) := by
        have := down_lim (j := k) hsy hr32
        rw [Hq.out.1, Hq.out.2] at this
        exact this
      obtain ⟨sl, hsl⟩ : ∃ sl, sl = downLimb ys r k := ⟨_, rfl⟩
      have hsl2 : sl < 4294967296 := by rw [hsl]; exact downLimb_lt hsy _ _
      have Hst : RowKit.Hid (RDown ys (zs ++ [sl]) r (k + 1)) := Hinv.out.step hsl
      rw [← hsl] at Hdl
      have Ht := Lib.hid ht
      clear ht
      have hkk : k ≤ 200000000 := by omega
      by_cases hlast : t + 1 < n
      case' pos =>
        have hcell2 : wr.cell? ⟨b1, o1 + (t + 1), none⟩ = some (.int .u32 ((lim xs (t + 1) : Nat) : Int)) := (bw.cell (p := ⟨b1, o1 + (t + 1), none⟩) hb1).trans (hc1 (t + 1) hlast)
        obtain ⟨s, hs⟩ : ∃ s, s = lim xs t ||| lim xs (t + 1) * 4294967296 := ⟨_, rfl⟩
        have hor : bits BinOp.or IntKind.u64 ((lim xs t : Nat) : Int) (((lim xs (t + 1) : Nat) : Int) * 4294967296) = (s : Int) := by
          have := u64_or_nat (lim xs t) (lim xs (t + 1) * 4294967296) (by omega) (by omega)
          rw [hs, ← this]; rfl
        have hs2 : s < 18446744073709551616 := by
          rw [hs]
          exact Nat.or_lt_two_pow (n := 64) (by omega) (by omega)
        rw [← hs] at Hdl
        have hlt : (((t : Int) + 1)) < (n : Int) := by omega
        have es : ((s : Int) / 2 ^ r) % 4294967296 = ((sl : Nat) : Int) := by
          rw [← Hdl.out, Int.natCast_emod, Int.natCast_ediv, Int.natCast_pow]; rfl
      case' neg =>
        have hl0 : lim xs (t + 1) = 0 := lim_of_ge (by rw [Hlx.out]; omega)
        obtain ⟨s, hs⟩ : ∃ s, s = lim xs t := ⟨_, rfl⟩
        rw [hl0, Nat.zero_mul, Nat.or_zero, ← hs] at Hdl
        rw [← hs] at hcell l1
        have hlt : (n : Int) ≤ ((t : Int) + 1) := by omega
        have es : ((s : Int) / 2 ^ r) % 4294967296 = ((sl : Nat) : Int) := by
          rw [← Hdl.out, Int.natCast_emod, Int.natCast_ediv, Int.natCast_pow]; rfl
      all_goals
        have Hown : RowKit.Hid ((wr.alloc (.cells #[Value.int IntKind.u32 (sl : Int)] 38)).ownsRow w.heap.size 38 1 (.slice A2 (k) c2) (k) (zs.map limV)) := (how.alloc _).row
        have Hlit : RowKit.Hid (NN (wr.alloc (.cells #[Value.int IntKind.u32 (sl : Int)] 38)) (some ⟨wr.heap.size, 0, none⟩) 1 1 [sl] (val [sl]) 1) := lit_c wr [sl] (by intro x hx; simp at hx; omega) 1 rfl
        have Hb : RowKit.Hid ((k) ≤ 1000000000 ∧ 1 ≤ 1000000000 ∧ w.heap.size ≤ (wr.alloc (.cells #[Value.int IntKind.u32 (sl : Int)] 38)).heap.size ∧ Small zs) := ⟨by omega, by omega, by have := bw.size; simp; omega, how.small⟩
        have How := Lib.hid how
        have Hbw := Lib.hid bw
        clear how bw Hinv Hdl hs hsl hsl2 Hq
        go_wp2_with (at_builtin; refine wpList_append_nat rfl _ _ rfl w.heap.size _ (k) zs rfl Hown (some ⟨wr.heap.size, 0, none⟩) 1 1 [sl] (val [sl]) 1 rfl Hlit Hb ?_)
        intro A3 c3 w3 how3 hg3
        have bw3 := below_grown Hbw.out How.out hg3.out
        have How3 := Lib.hid how3.out
        have Bw3 := Lib.hid bw3
        clear how3 hg3 Hown Hlit Hb How Hbw bw3
        go_wp2
        go_roundw
        case rel => exact ⟨k + 1, zs ++ [sl], A3, c3, by have := Ht.out; omega, by rw [Ht.out]; go_num, rfl, Hst, How3, Bw3⟩
        case measure => simp [intOf]; omega
    · have e0 : ((q : Int) + (k : Int)) = ((q + k : Nat) : Int) := by omega
      rw [e0]
      have hge : (n : Int) ≤ ((q + k : Nat) : Int) := by omega
      obtain ⟨t, ht⟩ : ∃ t, t = q + k := ⟨_, rfl⟩
      rw [← ht] at hge ⊢
      have hkn : k = n - q := by omega
      have hv : val zs = a / 2 ^ m := Hend.out zs how.small (by rw [← hkn]; exact Hinv.out)
      have hz : NN wr A2 k c2 zs (a / 2 ^ m) L := ⟨how.isN, hv, how.caps.1, by omega⟩
      clear hv how ht hkn
      go_wp2_with fail
      refine (refTrim_o hz (by omega)).mono ?_
      rintro e w4 ⟨A4, n4, c4, rfl, h4, bn⟩
      go_wp2
      go_ret
      exact ⟨_, _, _, rfl, h4.mono bw.size, below_two bw bn⟩

theorem refDown_c {A : Option Addr} {n c : Nat} {xs : List Nat} {a L : Nat} {w : World} (hx : NN w A n c xs a L) (m : Nat) (V : Int) (hV : V = m) (hm : m ≤ 100000000) (h1 : L ≤ 100000000) :
    Calls Tryz.prog 117 #[.slice A n c, .int .i64 V] w fun e w' => ∃ A2 n2 c2, e = .returned (.slice A2 n2 c2) ∧ NN w' A2 n2 c2 (limbs (a / 2 ^ m)) (a / 2 ^ m) L ∧ Below w.heap.size w w' := by
  have hl := lt_pow hx
  refine (refDown_o hx m V hV hm h1).mono ?_
  rintro e w' ⟨A2, n2, c2, rfl, how, hb⟩
  exact ⟨A2, n2, c2, rfl, NN.own how (Nat.lt_of_le_of_lt (Nat.div_le_self _ _) hl), hb⟩

end Go.Proofs.YtjpoolddgocbbaaGreatDoor

/- What the reference's Of of layer 2 comes to, as a contract over memory: the product, in shortest limbs. Conditions: both lists read as limbs, of at most 10^6 of them. -/
namespace Go.Proofs.YtjpoolddgocbbaaGreatDoor
open Go.RowKit Limb
set_option linter.unusedVariables false

theorem mul_step (a : Nat) (ys : List Nat) (k : Nat) : a * val (ys.take k) + a * lim ys k * 2 ^ (32 * k) = a * val (ys.take (k + 1)) := by
  rw [val_take_lim, Nat.mul_add, pow32, Nat.mul_assoc, Nat.mul_comm (lim ys k)]

theorem mul_room {w : World} {A A' : Option Addr} {n c n' c' : Nat} {xs ys : List Nat} {a b L L' : Nat} (hx : NN w A n c xs a L) (hy : NN w A' n' c' ys b L') (k : Nat) : a * val (ys.take k) < 4294967296 ^ (L + L') := by
  have h1 := lt_pow hx
  have h2 := val_lt (small_take hy.isN.small k)
  have h3 : 4294967296 ^ (ys.take k).length ≤ 4294967296 ^ L' := Nat.pow_le_pow_right (by decide) (by rw [List.length_take, hy.isN.len]; have := hy.le; omega)
  rw [Nat.pow_add]
  exact Nat.mul_lt_mul'' h1 (Nat.lt_of_lt_of_le h2 h3)

theorem up_fits {t L k : Nat} (h : t < 4294967296 ^ L) : t * 2 ^ (32 * k) < 4294967296 ^ (L + k) := by
  rw [Nat.pow_add, ← pow32]
  exact Nat.mul_lt_mul_of_pos_right h (Nat.pow_pos (by decide))

set_option maxHeartbeats 1600000 in
theorem refMul_c {A A' : Option Addr} {n c n' c' : Nat} {xs ys : List Nat} {a b L L' : Nat} {w : World} (hx : NN w A n c xs a L) (hy : NN w A' n' c' ys b L') (h1 : L ≤ 1000000) (h2 : L' ≤ 1000000) :
    Calls Tryz.prog 60 #[.slice A n c, .slice A' n' c'] w fun e w' => ∃ A2 n2 c2, e = .returned (.slice A2 n2 c2) ∧ NN w' A2 n2 c2 (limbs (a * b)) (a * b) (L + L') ∧ Below w.heap.size w w' := by
  have hle := hx.le
  have hle' := hy.le
  have Hly := Lib.hid hy.isN.len
  have hsy := hy.isN.small
  have Hyv : RowKit.Hid (val ys = b) := hy.val
  have Hroom := Lib.hid (fun k => mul_room hx hy k)
  have H0 : RowKit.Hid (∀ wr : World, NN wr none 0 0 (limbs (a * val (ys.take 0))) (a * val (ys.take 0)) (L + L')) := by
    intro wr
    have e : a * val (ys.take 0) = 0 := by simp [val]
    rw [e]
    exact ⟨IsN.nil _ _, rfl, Nat.le_refl _, Nat.zero_le _⟩
  go_enter Tryz.func60, Tryz.ntmps60
  go_wp2
  go_loopw [6, 5] (fun i ov wr => ∃ (k t : Nat) (A2 : Option Addr) (n2 c2 : Nat), k ≤ n' ∧ i = .int .i64 (k : Int) ∧ ov = .slice A2 n2 c2 ∧ RowKit.Hid (t = a * val (ys.take k)) ∧ NN wr A2 n2 c2 (limbs t) t (L + L') ∧ Below w.heap.size w wr) (fun i _ _ => n' - (intOf i).toNat)
  case atStart => exact ⟨0, _, none, 0, 0, by omega, rfl, rfl, rfl, H0.out _, Below.refl _ _⟩
  case round =>
    obtain ⟨k, t, A2, n2, c2, hk, rfl, rfl, Ht, ho, bw⟩ := hrel
    have h_x := hx.below bw
    have h_y := hy.below bw
    by_cases hgo : k < n'
    · obtain ⟨b1, o1, hA, hb1, hc1⟩ := h_y.isN.2.2 (by omega)
      subst hA
      have hcell : wr.cell? ⟨b1, o1 + k, none⟩ = some (.int .u32 ((lim ys k : Nat) : Int)) := hc1 k hgo
      have l1 := lim_lt hsy k
      clear hx hy
      go_wp2_with fail
      refine (refSmall_c h_x (lim ys k) _ rfl l1 (by omega)).mono ?_
      rintro e w1 ⟨A3, n3, c3, rfl, h3, bn⟩
      replace ho := ho.below bn
      replace h_x := h_x.below bn
      replace h_y := h_y.below bn
      replace bw := below_two bw bn
      clear bn
      go_wp2_with fail
      refine (refUp_c h3 (32 * k) _ (by omega) (by omega) (by omega) (L + 1 + k) (up_fits (lt_pow h3))).mono ?_
      rintro e w2 ⟨A4, n4, c4, rfl, h4, bn⟩
      replace ho := ho.below bn
      replace h_x := h_x.below bn
      replace h_y := h_y.below bn
      replace bw := below_two bw bn
      clear bn h3
      go_wp2_with fail
      refine (refAdd_c ho h4 (by omega) (by omega)).mono ?_
      rintro e w3 ⟨A5, n5, c5, rfl, h5, bn⟩
      replace bw := below_two bw bn
      clear bn h4 ho h_x h_y
      have e1 : t + a * lim ys k * 2 ^ (32 * k) = a * val (ys.take (k + 1)) := by rw [Ht.out, mul_step]
      rw [e1] at h5
      have h6 := h5.relax (Hroom.out (k + 1))
      clear h5 e1
      obtain ⟨u, hu⟩ : ∃ u, u = a * val (ys.take (k + 1)) := ⟨_, rfl⟩
      rw [← hu] at h6
      have Hu := Lib.hid hu
      clear hu
      go_wp2
      go_roundw
      case rel => exact ⟨k + 1, u, A5, n5, c5, by omega, by go_num, rfl, Hu, h6, bw⟩
      case measure => simp [intOf]; omega
    · obtain rfl : k = n' := by omega
      have Ht2 : RowKit.Hid (t = a * b) := by
        have h := Ht.out
        rw [List.take_of_length_le (by rw [Hly.out]; exact Nat.le_refl _), Hyv.out] at h
        exact h
      clear hx hy
      go_wp2_with fail
      refine (refTrim_c ho (by omega)).mono ?_
      rintro e w4 ⟨A4, n4, c4, rfl, h4, bn⟩
      rw [Ht2.out] at h4
      go_wp2
      go_ret
      exact ⟨_, _, _, rfl, h4, below_two bw bn⟩

end Go.Proofs.YtjpoolddgocbbaaGreatDoor

/- What package quo's Rem answers, as contracts over memory: the quotient and what is left, in their shortest limbs, or nothing if the divisor is 0. Conditions: both lists read as limbs, of at most 10^5 of them. -/
namespace Go.Proofs.YtjpoolddgocbbaaGreatDoor.Limb

theorem top_limb {b k : Nat} (hk : (limbs b).length = k + 1) : lim (limbs b) k = b / 4294967296 ^ k ∧ 1 ≤ b / 4294967296 ^ k ∧ b / 4294967296 ^ k < 4294967296 := by
  have hb : b ≠ 0 := by intro h; rw [h, limbs_zero] at hk; simp at hk
  have h1 := length_limbs_pred hb
  rw [hk, Nat.add_sub_cancel] at h1
  have h2 := val_lt (small_limbs b)
  rw [val_limbs, hk, Nat.pow_succ] at h2
  have h3 := lim_eq_div (limbs b) (small_limbs b) k
  rw [val_limbs] at h3
  have hP : 0 < 4294967296 ^ k := Nat.pow_pos (by decide)
  have h4 : b / 4294967296 ^ k < 4294967296 := by rw [Nat.div_lt_iff_lt_mul hP, Nat.mul_comm]; exact h2
  rw [Nat.mod_eq_of_lt h4] at h3
  exact ⟨h3.symm, (Nat.le_div_iff_mul_le hP).2 (by omega), h4⟩

/-- Moved up till the highest bit is set a number has as many limbs. -/
theorem norm_ok {b k f : Nat} (hk : (limbs b).length = k + 1) (hf : f + blen (lim (limbs b) k) = 32) : (limbs (b * 2 ^ f)).length = k + 1 ∧ 2147483648 ≤ lim (limbs (b * 2 ^ f)) k := by
  obtain ⟨e, h1, h2⟩ := top_limb hk
  rw [e] at hf
  have hP : 0 < 4294967296 ^ k := Nat.pow_pos (by decide)
  have h3 := Nat.div_mul_le_self b (4294967296 ^ k)
  have h4 := Nat.lt_mul_div_succ b hP
  generalize b / 4294967296 ^ k = t at *
  obtain ⟨s1, s2, s3⟩ := blen_spec (n := t) (by omega)
  obtain ⟨u, hu⟩ : ∃ u, blen t = u + 1 := ⟨blen t - 1, by omega⟩
  rw [hu] at s1 s2 hf
  rw [Nat.add_sub_cancel] at s1
  have e1 : 2 ^ u * 2 ^ f = 2147483648 := by rw [← Nat.pow_add, show u + f = 31 by omega]
  have e2 : 2 ^ (u + 1) * 2 ^ f = 4294967296 := by rw [← Nat.pow_add, show u + 1 + f = 32 by omega]
  have l1 : 2147483648 * 4294967296 ^ k ≤ b * 2 ^ f := by
    rw [← e1, Nat.mul_right_comm]
    exact Nat.mul_le_mul_right _ (Nat.le_trans (Nat.mul_le_mul_right _ s1) h3)
  have l2 : b * 2 ^ f < 4294967296 ^ (k + 1) := by
    rw [Nat.pow_succ]
    have h5 : b < 4294967296 ^ k * 2 ^ (u + 1) := Nat.lt_of_lt_of_le h4 (Nat.mul_le_mul_left _ s2)
    have h6 := Nat.mul_lt_mul_of_pos_right h5 (Nat.two_pow_pos f)
    rwa [Nat.mul_assoc, e2] at h6
  have hlen : (limbs (b * 2 ^ f)).length = k + 1 := by
    have a1 := length_limbs_le l2
    have a2 := lt_length_limbs (n := b * 2 ^ f) (k := k) (by have : 1 * 4294967296 ^ k ≤ 2147483648 * 4294967296 ^ k := Nat.mul_le_mul_right _ (by decide); omega)
    omega
  obtain ⟨e3, _, _⟩ := top_limb hlen
  refine ⟨hlen, ?_⟩
  rw [e3]
  exact (Nat.le_div_iff_mul_le hP).2 l1

theorem rem_back {a b f : Nat} : a * 2 ^ f % (b * 2 ^ f) / 2 ^ f = a % b := by
  rw [Nat.mul_mod_mul_right, Nat.mul_div_cancel _ (Nat.two_pow_pos f)]
theorem quo_same {a b f : Nat} : a * 2 ^ f / (b * 2 ^ f) = a / b := Nat.mul_div_mul_right _ _ (Nat.two_pow_pos f)

end Go.Proofs.YtjpoolddgocbbaaGreatDoor.Limb
namespace Go.Proofs.YtjpoolddgocbbaaGreatDoor
open Go.RowKit Limb
set_option linter.unusedVariables false

theorem lead_any (x : Nat) (w : World) (h1 : x < 4294967296) (f : Nat) (hf : f + blen x = 32) :
    Calls Tryz.prog 99 #[.int .u32 (x : Int)] w fun e w' => e = .returned (.int .i64 (f : Int)) ∧ w = w' := by
  have h2 : 32 - ((blen x : Nat) : Int) = (f : Int) := by omega
  have hb : blen x ≤ 32 := by omega
  have hL := len32_any (x : Int) w (by omega) (by omega)
  rw [Int.toNat_natCast] at hL
  obtain ⟨y, hy⟩ : ∃ y, y = blen x := ⟨_, rfl⟩
  rw [← hy] at h2 hb hL
  clear hf hy
  go_enter Tryz.func99, Tryz.ntmps99
  go_wp2_with fail
  refine hL.mono ?_
  rintro e w1 ⟨rfl, rfl⟩
  go_wp2
  go_ret
  exact ⟨rfl, rfl⟩

set_option maxHeartbeats 1000000 in
theorem quoRem_no {A A' : Option Addr} {n c n' c' : Nat} {xs ys : List Nat} {a b L L' : Nat} {w : World} (hx : NN w A n c xs a L) (hy : NN w A' n' c' ys b L') (h1 : L ≤ 100000) (h2 : L' ≤ 100000) (hb : b = 0) :
    Calls Tryz.prog 69 #[.slice A n c, .slice A' n' c'] w fun e w' => ∃ A1 c1 A2 c2, e = .returned (.tuple #[.slice A1 0 c1, .slice A2 0 c2, .bool false]) ∧ Below w.heap.size w w' := by
  subst hb
  go_enter Tryz.func69, Tryz.ntmps69
  go_wp2_with fail
  refine (trim_c hx (by omega)).mono ?_
  rintro e w1 ⟨A1, n1, c1, rfl, hx1, bn⟩
  have hy1 := hy.below bn
  have bw := bn
  clear hx hy bn
  go_wp2_with fail
  refine (trim_c hy1 (by omega)).mono ?_
  rintro e w2 ⟨A2, n2, c2, rfl, hy2, bn⟩
  have hn2 : n2 = 0 := by have := hy2.isN.len; rw [limbs_zero] at this; exact this.symm
  subst hn2
  have HW := Lib.hid (below_two bw bn)
  clear bn bw hy1 hy2 hx1
  go_wp2
  go_ret3
  exact ⟨none, 0, none, 0, rfl, HW.out⟩

set_option maxHeartbeats 2000000 in
theorem quoRem_yes {A A' : Option Addr} {n c n' c' : Nat} {xs ys : List Nat} {a b L L' : Nat} {w : World} (hx : NN w A n c xs a L) (hy : NN w A' n' c' ys b L') (h1 : L ≤ 100000) (h2 : L' ≤ 100000) (hb : b ≠ 0) :
    Calls Tryz.prog 69 #[.slice A n c, .slice A' n' c'] w fun e w' => ∃ A1 n1 c1 A2 n2 c2, e = .returned (.tuple #[.slice A1 n1 c1, .slice A2 n2 c2, .bool true]) ∧ NN w' A1 n1 c1 (limbs (a / b)) (a / b) L ∧ NN w' A2 n2 c2 (limbs (a % b)) (a % b) L' ∧ Below w.heap.size w w' := by
  have Hl := Lib.hid (Nat.lt_trans (Nat.mod_lt a (Nat.pos_of_ne_zero hb)) (lt_pow hy))
  have Hla := Lib.hid (Nat.lt_of_le_of_lt (Nat.div_le_self a b) (lt_pow hx))
  go_enter Tryz.func69, Tryz.ntmps69
  go_wp2_with fail
  refine (trim_c hx (by omega)).mono ?_
  rintro e w1 ⟨A1, n1, c1, rfl, hx1, bn⟩
  have hy1 := hy.below bn
  have bw := bn
  clear hx hy bn
  go_wp2_with fail
  refine (trim_c hy1 (by omega)).mono ?_
  rintro e w2 ⟨A2, n2, c2, rfl, hy2, bn⟩
  replace hx1 := hx1.below bn
  replace bw := below_two bw bn
  clear bn hy1
  have hyl := hy2.isN.len
  have hxl := hx1.isN.len
  have hn2 : 0 < n2 := by rw [limbs_pos hb] at hyl; simp at hyl; omega
  have hn2e : ((n2 : Int) == 0) = false := by simp; omega
  have hle2 := hy2.le
  have hle1 := hx1.le
  have Hyl := Lib.hid hyl
  have Hxl := Lib.hid hxl
  have Hb0 := Lib.hid hb
  clear hyl hxl hb
  by_cases hlt : a < b
  · have e1 : RowKit.Hid (a / b = 0) := Nat.div_eq_of_lt hlt
    have e2 : RowKit.Hid (a % b = a) := Nat.mod_eq_of_lt hlt
    have hc := cmpI_lt hlt
    have Hc := Lib.hid hc
    have HA := Lib.hid hx1
    have Hlt := Lib.hid hlt
    clear hlt hc
    go_wp2_with fail
    refine (cmp_c HA.out hy2 (by omega) (by omega) (-1) Hc.out).mono ?_
    rintro e w3 ⟨rfl, bn⟩
    have HR := Lib.hid (HA.out.below bn)
    have HW := Lib.hid (below_two bw bn)
    clear bn bw hy2 hx1 HA
    go_wp2
    go_ret3
    refine ⟨none, 0, 0, _, _, _, rfl, ?_, ?_, HW.out⟩
    · rw [e1.out, limbs_zero]; exact ⟨IsN.nil _ _, rfl, Nat.zero_le _, Nat.zero_le _⟩
    · rw [e2.out]; exact HR.out.relax (by have := Hl.out; rwa [e2.out] at this)
  · obtain ⟨v, hv, hv0⟩ : ∃ v, cmpI a b = v ∧ 0 ≤ v := by
      rcases Nat.lt_trichotomy a b with h | h | h
      · exact absurd h hlt
      · exact ⟨0, by rw [h]; exact cmpI_eq _, by omega⟩
      · exact ⟨1, cmpI_gt h, by omega⟩
    have Hv := Lib.hid hv
    have Hge := Lib.hid (Nat.le_of_not_lt hlt)
    clear hv hlt
    go_wp2_with fail
    refine (cmp_c hx1 hy2 (by omega) (by omega) v Hv.out).mono ?_
    rintro e w3 ⟨rfl, bn⟩
    replace hx1 := hx1.below bn
    replace hy2 := hy2.below bn
    replace bw := below_two bw bn
    clear bn Hv
    obtain ⟨b2, o2, rfl, hb2, hc2⟩ := hy2.isN.2.2 hn2
    by_cases hn1 : n2 = 1
    · subst hn1
      have el : limbs b = [b] ∧ b < 4294967296 := by
        have h := Hyl.out
        rw [limbs_pos Hb0.out] at h ⊢
        simp only [List.length_cons] at h
        have h0 : limbs (b / 4294967296) = [] := List.eq_nil_of_length_eq_zero (by omega)
        have h3 := limbs_eq_nil.1 h0
        have h4 : b < 4294967296 := by omega
        rw [h0, Nat.mod_eq_of_lt h4]
        exact ⟨rfl, h4⟩
      have k3 := hc2 0 (by omega)
      rw [el.1] at k3
      have e1 : lim [b] 0 = b := rfl
      rw [e1, Nat.add_zero] at k3
      have hb4 := el.2
      clear el e1 hc2 hn2e
      go_wp2_with fail
      refine (quoSmall_yes hx1 h1 b _ rfl hb4 Hb0.out).mono ?_
      rintro e w4 ⟨A4, n4, c4, rfl, hq, bn⟩
      have Hml := Lib.hid (Nat.mod_lt a (Nat.pos_of_ne_zero Hb0.out))
      obtain ⟨r, hr⟩ : ∃ r, r = a % b := ⟨_, rfl⟩
      have Hr := Lib.hid hr
      rw [← hr] at Hml ⊢
      have hr4 : r < 4294967296 := Nat.lt_trans Hml.out hb4
      replace bw := below_two bw bn
      clear bn hx1 hy2 hr k3
      go_wp2_with fail
      refine (of_c r _ rfl (by omega) w4).mono ?_
      rintro e w5 ⟨A5, n5, c5, rfl, ho, bn⟩
      have HQ := Lib.hid (hq.below bn)
      rw [Hr.out] at ho
      have HO := Lib.hid (ho.relax Hl.out)
      have HW := Lib.hid (below_two bw bn)
      clear ho hq bn bw
      go_wp2
      go_ret3
      exact ⟨_, _, _, _, _, _, rfl, HQ.out, HO.out, HW.out⟩
    · obtain ⟨k, rfl⟩ : ∃ k, n2 = k + 1 := ⟨n2 - 1, by omega⟩
      have hne1 : (((k + 1 : Nat) : Int) == 1) = false := by simp; omega
      have hk1 : 1 ≤ k := by omega
      have k3 := hc2 k (by omega)
      have ek : ((k + 1 : Nat) : Int) - 1 = (k : Int) := by omega
      obtain ⟨t, ht⟩ : ∃ t, t = lim (limbs b) k := ⟨_, rfl⟩
      have ht4 : t < 4294967296 := by rw [ht]; exact lim_lt (small_limbs b) k
      have hbl : blen t ≤ 32 := blen_le (k := 32) ht4
      obtain ⟨f, hf⟩ : ∃ f, f + blen t = 32 := ⟨32 - blen t, by omega⟩
      have hnorm := norm_ok (f := f) Hyl.out (by rw [← ht]; exact hf)
      have HF := Lib.hid hf
      have Hnorm := Lib.hid hnorm
      rw [← ht] at k3
      have hf32 : f ≤ 32 := by omega
      have hsa : shiftV a (f : Int) = a * 2 ^ f := shiftV_up (by omega) (by omega)
      have hsb : shiftV b (f : Int) = b * 2 ^ f := shiftV_up (by omega) (by omega)
      have h2f : 2 ^ f ≤ 4294967296 := (Nat.pow_le_pow_right (n := 2) (by decide) hf32 : 2 ^ f ≤ 2 ^ 32)
      have Hsa := Lib.hid hsa
      have Hsb := Lib.hid hsb
      have Hba : RowKit.Hid (a * 2 ^ f < 4294967296 ^ (L + 1)) := by
        show _ < _
        rw [Nat.pow_succ]
        exact Nat.lt_of_lt_of_le (Nat.mul_lt_mul_of_pos_right (lt_pow hx1) (Nat.two_pow_pos f)) (Nat.mul_le_mul_left _ h2f)
      have Hbb : RowKit.Hid (b * 2 ^ f < 4294967296 ^ (L' + 1)) := by
        show _ < _
        rw [Nat.pow_succ]
        exact Nat.lt_of_lt_of_le (Nat.mul_lt_mul_of_pos_right (lt_pow hy2) (Nat.two_pow_pos f)) (Nat.mul_le_mul_left _ h2f)
      have Hab : RowKit.Hid (b * 2 ^ f ≤ a * 2 ^ f) := Nat.mul_le_mul_right _ Hge.out
      clear ht hbl hf hnorm hsa hsb h2f hc2 hn1 hn2e
      go_wp2_with fail
      refine (lead_any t w3 ht4 f HF.out).mono ?_
      rintro e w4 ⟨rfl, rfl⟩
      go_wp2_with fail
      refine (mulShift_c hx1 (f : Int) (by omega) (by omega) (a * 2 ^ f) (L + 1) Hsa.out Hba.out (by omega)).mono ?_
      rintro e w4 ⟨A4, n4, c4, rfl, ha, bn⟩
      replace hy2 := hy2.below bn
      replace bw := below_two bw bn
      clear bn hx1
      go_wp2_with fail
      refine (mulShift_c hy2 (f : Int) (by omega) (by omega) (b * 2 ^ f) (L' + 1) Hsb.out Hbb.out (by omega)).mono ?_
      rintro e w5 ⟨A5, n5, c5, rfl, hbn, bn⟩
      replace ha := ha.below bn
      replace bw := below_two bw bn
      clear bn hy2
      have hn5 : n5 = k + 1 := by have := hbn.isN.len; rw [Hnorm.out.1] at this; exact this.symm
      subst hn5
      have hle4 := ha.le
      have hcap4 := ha.cap
      have h54 : k + 1 ≤ n4 := by
        have := length_limbs_mono Hab.out
        rwa [Hnorm.out.1, ha.isN.len] at this
      have hi4 := ha.isN
      have hi5 := hbn.isN
      have HD := Lib.hid (divide_any A4 n4 c4 (limbs (a * 2 ^ f)) A5 (k + 1) c5 (limbs (b * 2 ^ f)) w5 hi4 hi5 (by omega) hcap4 (by omega) h54 (by rw [Nat.add_sub_cancel]; exact Hnorm.out.2))
      clear ha hbn hi4 hi5
      go_wp2_with fail
      refine HD.out.mono ?_
      rintro e w6 ⟨A6, n6, c6, A7, c7, zs, rfl, hq, ⟨hr, hvr⟩, bn⟩
      rw [val_limbs, val_limbs] at hvr
      rw [val_limbs, val_limbs, quo_same] at hq
      have hq2 := NN.own hq Hla.out
      have hr2 : NN w6 A7 (k + 1) c7 zs (a * 2 ^ f % (b * 2 ^ f)) (L' + 1) := ⟨hr.isN, hvr, hr.caps.1, by omega⟩
      replace bw := below_two bw bn
      have Hsr : RowKit.Hid (shiftV (a * 2 ^ f % (b * 2 ^ f)) (-(f : Int)) = a % b) := by
        show _ = _
        rw [← rem_back (a := a) (b := b) (f := f)]
        by_cases h0 : f = 0
        · rw [h0]; exact (shiftV_up (n := -((0 : Nat) : Int)) (k := 0) (by omega) (by omega)).trans (by simp)
        · exact shiftV_down (n := -(f : Int)) (k := f) (by omega) (by omega) (by omega)
      clear bn hq hr hvr HD
      go_wp2_with fail
      refine (mulShift_c hr2 (-(f : Int)) (by omega) (by omega) (a % b) L' Hsr.out Hl.out (by omega)).mono ?_
      rintro e w7 ⟨A8, n8, c8, rfl, hr3, bn⟩
      have HQ := Lib.hid (hq2.below bn)
      have HR := Lib.hid hr3
      have HW := Lib.hid (below_two bw bn)
      clear hq2 hr3 hr2 bn bw
      go_wp2
      go_ret3
      exact ⟨_, _, _, _, _, _, rfl, HQ.out, HR.out, HW.out⟩

end Go.Proofs.YtjpoolddgocbbaaGreatDoor
