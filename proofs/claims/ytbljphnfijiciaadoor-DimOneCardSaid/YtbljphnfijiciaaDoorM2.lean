/- Part 2 of the texts that the statements of this seat lean on: mathematics, and what functions answer, as contracts over memory; each part says its own conditions. -/
import Derived.Test.YtbljphnfijiciaaDoorM1
import Derived.Deep.RegionHeld3
import Derived.Deep.CutRange
import Derived.ProofKit
import Derived.OpenShut
import Derived.ShutString
import Derived.ChangeOld
import Derived.ChangeKeysEq
import Derived.Lib.ItoaNum
import Derived.Lib.Join
import Derived.Lib.LaidTab
import Derived.Lib.LaidU8
import Derived.Lib.AtoiErrMem
/- Two structs of a sign and a slice that two calls answer and that go to two new variables ('x, y := f(..), g(..)'): Go leaves open when the variables are made; whatever the order, both boxes hold the answers. No condition. -/
namespace Go.Proofs.YtbljphnfijiciaaDoor
open Go.RowKit Limb
set_option linter.unusedVariables false
abbrev zbox : Obj := .cells #[Value.bool false, Value.slice none 0 0] 52
def ZB (w : World) (g : Nat) : Prop := Row2 w g 52 (.bool false) (.slice none 0 0)
theorem ZB.below {w w' : World} {g : Nat} (h : ZB w g) (hb : Below w.heap.size w w') : ZB w' g := Row2.below h hb
theorem ZB.lt {w : World} {g : Nat} (h : ZB w g) : g < w.heap.size := Row2.lt h
theorem ZB.cells {w : World} {g : Nat} (h : ZB w g) : w.cell? ⟨g, 0, none⟩ = some (.bool false) ∧ w.cell? ⟨g, 1, none⟩ = some (.slice none 0 0) ∧ w.frozen? ⟨g, 0, none⟩ = false ∧ w.frozen? ⟨g, 1, none⟩ = false := ⟨h.c0, h.c1, h.free 0, h.free 1⟩
theorem ZZ.put {w : World} {s : Bool} {A : Option Addr} {n c : Nat} {xs : List Nat} {z : Int} {L g : Nat} (h : ZZ w s A n c xs z L) (hb : ZB w g) (u v : Value) : ZZ ((w.setCell ⟨g, 0, none⟩ u).setCell ⟨g, 1, none⟩ v) s A n c xs z L := ⟨h.nn.put2 hb u v, h.sgn⟩
theorem Row2.far {w : World} {g g' : Nat} {T : TypeId} {u v : Value} (h : Row2 w g' T u v) (hne : g ≠ g') (x y : Value) : Row2 ((w.setCell ⟨g, 0, none⟩ x).setCell ⟨g, 1, none⟩ y) g' T u v := by
 unfold Row2 at h ⊢
 simp only [World.setCell, Array.getElem?_modify]
 rw [if_neg hne, if_neg hne]
 exact h
theorem Row2.filled {w : World} {g : Nat} {T : TypeId} {u v : Value} (h : Row2 w g T u v) (x y : Value) : Row2 ((w.setCell ⟨g, 0, none⟩ x).setCell ⟨g, 1, none⟩ y) g T x y := h.fill x y
section
variable {wP w : World} {q r : Nat} {s : Bool} {A : Option Addr} {n c : Nat} {xs : List Nat} {z : Int} {L : Nat} {s' : Bool} {A' : Option Addr} {n' c' : Nat} {xs' : List Nat} {z' : Int} {L' : Nat}
structure Two (wP wx : World) (q r : Nat) (s : Bool) (A : Option Addr) (n c : Nat) (xs : List Nat) (z : Int) (L : Nat) (s' : Bool) (A' : Option Addr) (n' c' : Nat) (xs' : List Nat) (z' : Int) (L' : Nat) : Prop where
 q : Row2 wx q 52 (.bool s) (.slice A n c)
 r : Row2 wx r 52 (.bool s') (.slice A' n' c')
 z : ZZ wx s A n c xs z L
 z' : ZZ wx s' A' n' c' xs' z' L'
 b : Below wP.heap.size wP wx
end
end Go.Proofs.YtbljphnfijiciaaDoor

/- What package whole's own helpers answer (signed, isBelow), and strings.CutPrefix of a minus sign, as contracts over memory. Conditions: sizes of at most so many limbs. -/
namespace Go.Proofs.YtbljphnfijiciaaDoor
open Go.RowKit Limb
set_option linter.unusedVariables false
theorem len_limbs_zero {a : Nat} : (limbs a).length = 0 ↔ a = 0 := by
 constructor
 · intro h
   have h2 := val_limbs a
   rw [List.eq_nil_of_length_eq_zero h] at h2
   exact h2.symm
 · rintro rfl; rw [limbs_zero]; rfl
theorem results_mixed {P : Program} {fn : Func} {p q : Tmp} {ty : TypeId} (h : fn.results = #[.cell p ty, .tmp q]) (tmps : Array Value) (w : World) (g : Nat) (t : TypeId) (cs : Array Value) (fr : Nat × Nat) (d : TypeDesc) (v : Value)
 (hp : tmps.getD p undef = .pointer (some ⟨g, 0, none⟩)) (hq : tmps.getD q undef = v) (hg : w.heap[g]? = some (.cells cs t fr))
 (hu : P.underlying ty = some d) (hd : (match d with | .struct _ | .array _ _ => true | _ => false) = true) (hi : (P.info? ty).map (·.size) = some cs.size) :
 (results fn tmps).run P w = .ok (.tuple #[.agg cs, v]) w := by
 have hp' : tmps[p]?.getD undef = .pointer (some ⟨g, 0, none⟩) := by simpa using hp
 have hq' : tmps[q]?.getD undef = v := by simpa using hq
 simp [results, h, hp', hq', asAddr, run_loadVar_row w g t ty cs fr d hg hu hd hi]
section
variable {w : World} {s s' : Bool} {A A' : Option Addr} {n c n' c' : Nat} {xs ys : List Nat} {x y : Int} {L L' : Nat}
end
end Go.Proofs.YtbljphnfijiciaaDoor

/- How an argument that is a slice of 32-bit words is opened: it reads as limbs in the caller's memory. No condition. -/
namespace Go.Proofs.YtbljphnfijiciaaDoor
open Go.ChangeShapes Go.WideShapes Go.ChangeAt Go.RowKit Limb
set_option linter.unusedVariables false
theorem own : ownKnob Tryd.prog.godebug = none := by kernel_rfl
theorem laidOut : laidOutB Tryd.prog = true := by kernel_rfl
theorem places_lt {H : Type} {enc : TypeId × Value → H} {W : World} {base : Nat} {sp : Nat → Bool} {held : Bool} {t : TypeId} {v : Value} {d : DataW H} {p : List MemPlace} (h : DataW.Trod enc Tryd.prog W base sp held t v d p) : ∀ x ∈ p, x.block < W.heap.size := by
 obtain ⟨m, hm⟩ := h; exact DataW.trod_lt m _ _ _ hm
end Go.Proofs.YtbljphnfijiciaaDoor

/- How an argument that is an array of integers is opened: a list of as many numbers, each in its bounds. Of any program; no condition. -/
namespace Go.Proofs.YtbljphnfijiciaaDoor
open Go.ChangeShapes Go.WideShapes Go.ChangeAt Go.RowKit Limb
set_option linter.unusedVariables false
def arrV (K : IntKind) (xs : List Int) : Value := .agg (xs.map (Value.int K)).toArray
theorem open_arr {P : Program} {H : Type} {enc : TypeId × Value → H} {W : World} {r : Reach} {b0 base : Nat} {sp : Nat → Bool} {held : Bool} {v : Value} {d : DataW H} {p : List MemPlace} {T e : TypeId} {n : Nat} {K : IntKind}
 (hu : P.underlying T = some (.array n e)) (hue : P.underlying e = some (.int K)) (hce : P.cellsOf e = 1) (hcT : P.cellsOf T = n)
 (hok : Value.okWide P W r b0 T v) (h : DataW.Trod enc P W base sp held T v d p) :
 ∃ xs : List Int, v = arrV K xs ∧ xs.length = n ∧ ∀ x ∈ xs, (Lit.int K x).wf = true := by
 simp only [Value.okWide, hu] at hok
 obtain ⟨cs, rfl, hsz, _⟩ := hok
 rw [hcT] at hsz
 obtain ⟨fuel, hf⟩ := h
 obtain ⟨ys, m, rfl, hx, hlen, hxl, hel⟩ := DataW.trod_array hu hf
 have hl : cs.toList.length = n := by simpa using hsz
 have hone : ∀ i (hi : i < cs.toList.length), ∃ a, cs.toList[i] = .int K a ∧ (Lit.int K a).wf = true := fun i hi => by
  have h0 := hel i (by omega)
  rw [List.getElem?_eq_getElem (by omega), hce] at h0
  obtain ⟨a, ha, _, wa⟩ := DataW.trod_int hue h0
  refine ⟨a, ?_, wa⟩
  simp only [Value.cells, Nat.mul_one] at ha
  rw [List.drop_eq_getElem_cons hi, List.take_succ_cons] at ha
  exact (List.cons.inj ha).1
 refine ⟨cs.toList.map fun c => match c with | .int _ q => q | _ => 0, ?_, by rw [List.length_map]; exact hl, fun x hx => ?_⟩
 · unfold arrV
   congr 1
   rw [List.map_map]
   apply Array.ext'
   simp only
   apply List.ext_getElem
   · simp
   · intro i h1 h2
     obtain ⟨a, ha, _⟩ := hone i h1
     simp only [List.getElem_map, Function.comp]
     rw [ha]
 · obtain ⟨c, hc, rfl⟩ := List.mem_map.1 hx
   obtain ⟨i, hi, rfl⟩ := List.mem_iff_getElem.1 hc
   obtain ⟨a, ha, wa⟩ := hone i hi
   rw [ha]; exact wa
end Go.Proofs.YtbljphnfijiciaaDoor

/- '==' of two arrays of integers. Of any program; no condition. -/
namespace Go.Proofs.YtbljphnfijiciaaDoor
open Go.RowKit Limb
set_option linter.unusedVariables false
section
variable {P : Program} (w : World)
theorem run_items_arr {d : Nat} {e : TypeId} {K : IntKind} (hue : P.underlying e = some (.int K)) {xs ys : List Int} (hx : xs.length = ys.length) :
 ∀ is : List Nat, (∀ i ∈ is, i < xs.length) → (Op.eqItems (d + 1) e 1 (xs.map (Value.int K)).toArray (ys.map (Value.int K)).toArray is).run P w = .ok (is.all fun i => decide (xs.getD i 0 = ys.getD i 0)) w
 | [], _ => by simp [Op.eqItems]
 | i :: is, h => by
  have ih := run_items_arr (d := d) hue hx is (fun j hj => h j (List.mem_cons_of_mem _ hj))
  have hi : i < xs.length := h i (by simp)
  have px : (part e (xs.map (Value.int K)).toArray (i * 1)).run P w = .ok (.int K (xs.getD i 0)) w := by
   simp [part, isAgg, run_underlying hue, List.getD, List.getElem?_eq_getElem hi]
  have py : (part e (ys.map (Value.int K)).toArray (i * 1)).run P w = .ok (.int K (ys.getD i 0)) w := by
   simp [part, isAgg, run_underlying hue, List.getD, List.getElem?_eq_getElem (show i < ys.length by omega)]
  have pe : (Op.equalIn (d + 1) e (.int K (xs.getD i 0)) (.int K (ys.getD i 0))).run P w = .ok (decide (xs.getD i 0 = ys.getD i 0)) w := by
   rw [run_equalIn_int w d e K K _ _ hue]
   congr 1
  simp only [Op.eqItems, Sem.run_bind, px, py, pe, Result.andThen_ok, List.all_cons]
  cases hb : decide (xs.getD i 0 = ys.getD i 0)
  · simp
  · simpa using ih
theorem run_equalIn_arr {t e : TypeId} {n : Nat} {i : TypeInfo} {K : IntKind} (hu : P.underlying t = some (.array n e)) (hi : P.info? e = some i) (hue : P.underlying e = some (.int K)) (hce : P.cellsOf e = 1) {xs ys : List Int} (hx : xs.length = n) (hy : ys.length = n) :
 (Op.equalIn 10000 t (.agg (xs.map (Value.int K)).toArray) (.agg (ys.map (Value.int K)).toArray)).run P w = .ok (decide (xs = ys)) w := by
 have h := run_equalIn_array (P := P) w 9999 (xs.map (Value.int K)).toArray (ys.map (Value.int K)).toArray hu hi
 rw [hce, run_items_arr w (d := 9998) hue (hx.trans hy.symm) (List.range n) (fun j hj => by rw [hx]; exact List.mem_range.1 hj)] at h
 have e2 : ((List.range n).all fun i => decide (xs.getD i 0 = ys.getD i 0)) = decide (xs = ys) := by
  rw [Bool.eq_iff_iff, List.all_eq_true, decide_eq_true_eq]
  constructor
  · intro h2
    apply List.ext_getElem (hx.trans hy.symm)
    intro j h3 h4
    have h5 := h2 j (List.mem_range.2 (by omega))
    rw [decide_eq_true_eq] at h5
    simpa [List.getD, List.getElem?_eq_getElem h3, List.getElem?_eq_getElem h4] using h5
  · rintro rfl j _
    simp
 rw [e2] at h
 exact h
end
end Go.Proofs.YtbljphnfijiciaaDoor

/- What package dim's clamp, nearest and Good answer, as contracts over memory. Condition: seven exponents. -/
namespace Go.Proofs.YtbljphnfijiciaaDoor
open Go.RowKit Limb
set_option linter.unusedVariables false
theorem int_info : (Tryd.prog.info? 3).map (fun i => (i.zero, i.size, i.bytes)) = some (some (.int .i64 0), 1, 8) := by kernel_rfl
theorem size7 : (Tryd.prog.info? 23).map (·.size) = some 7 := by kernel_rfl
theorem row7 : ∃ d, Tryd.prog.underlying 23 = some d ∧ d.isRow = true := ⟨_, Tryd.underlying23, rfl⟩
def dimV (xs : List Int) : Array Value := ints .i64 xs
theorem size_dimV {xs : List Int} (h : xs.length = 7) : (dimV xs).size = 7 := (size_ints _ _).trans h
theorem many7 {xs : List Int} (h : xs.length = 7) : Many Tryd.prog 23 (dimV xs).size := ⟨by rw [size_dimV h]; exact size7, row7⟩
theorem size_info {V : Array Value} (h : V.size = 7) : (Tryd.prog.info? 23).map (·.size) = some V.size := by rw [h]; exact size7
theorem dimV_one {xs : List Int} : ∀ v ∈ dimV xs, v.oneCell' = true := ints_one
theorem fits7 {xs : List Int} (h : xs.length = 7) : Many Tryd.prog 23 (dimV xs).size ∧ (#[.int .i64 0, .int .i64 0, .int .i64 0, .int .i64 0, .int .i64 0, .int .i64 0, .int .i64 0] : Array Value).size = (dimV xs).size ∧ ∀ v ∈ dimV xs, v.oneCell' = true := ⟨many7 h, by rw [size_dimV h]; rfl, dimV_one⟩
theorem dim0_V : dimV dim0 = #[.int .i64 0, .int .i64 0, .int .i64 0, .int .i64 0, .int .i64 0, .int .i64 0, .int .i64 0] := rfl
def clampE (m n : Int) : Int := max (-m) (min n m)
section
variable {w : World} {xs ys : List Int}
set_option maxHeartbeats 1000000 in
theorem dClamp_c (n m : Int) (h0 : 0 ≤ m) (h1 : m ≤ 1000) (n0 : -9223372036854775808 ≤ n) (n1 : n ≤ 9223372036854775807) :
 Calls Tryd.prog 18 #[.int .i64 n, .int .i64 m] w fun e w' => e = .returned (.int .i64 (clampE m n)) ∧ w' = w := by
 have hw : IntKind.i64.wrap (-m) = -m := by rw [IntKind.wrap_i64]; omega
 go_enter Tryd.func18, Tryd.ntmps18
 go_wp2
 all_goals go_ret
 all_goals refine ⟨congrArg (fun x => Ending.returned (Value.int .i64 x)) ?_, rfl⟩
 all_goals unfold clampE
 all_goals grind
def I64 (xs : List Int) : Prop := ∀ x ∈ xs, -9223372036854775808 ≤ x ∧ x ≤ 9223372036854775807
theorem I64.at (h : I64 xs) {i : Nat} (hi : i < xs.length) : -9223372036854775808 ≤ xs.getD i 0 ∧ xs.getD i 0 ≤ 9223372036854775807 := by
 have e : xs.getD i 0 = xs[i] := by simp [List.getD_eq_getElem?_getD, hi]
 rw [e]; exact h _ (List.getElem_mem _)
theorem index_dim (hx : xs.length = 7) (i : Nat) (hi : i < 7) (W : World) : (Instr.index 23 (.agg (dimV xs)) (.int .i64 (i : Int))).run Tryd.prog W = .ok (.int .i64 (xs.getD i 0)) W :=
 run_index_ints Tryd.underlying23 Tryd.underlying3 (by kernel_rfl) hx i hi .i64 W
def nearTo (xs : List Int) (i : Nat) : List Int := (xs.take i).map (clampE 200) ++ xs.drop i
theorem len_nearTo (xs : List Int) (i : Nat) : (nearTo xs i).length = xs.length := by unfold nearTo; simp; omega
theorem nearTo_zero (xs : List Int) : nearTo xs 0 = xs := by simp [nearTo]
theorem nearTo_all (h : xs.length = 7) : nearTo xs 7 = xs.map (clampE 200) := by unfold nearTo; rw [← h, List.take_length, List.drop_length, List.append_nil]
theorem nearTo_step {i : Nat} (h : i < xs.length) : (nearTo xs i).set i (clampE 200 (xs.getD i 0)) = nearTo xs (i + 1) := by
 have e : xs.getD i 0 = xs[i] := by simp [List.getD_eq_getElem?_getD, h]
 unfold nearTo
 rw [e, List.take_succ_eq_append_getElem h, List.map_append, List.set_append_right _ _ (by simp; omega), List.append_assoc]
 congr 1
 rw [List.length_map, List.length_take, Nat.min_eq_left (by omega), Nat.sub_self, List.drop_eq_getElem_cons h]
 rfl
set_option maxHeartbeats 4000000 in
theorem dNearest_c (hx : xs.length = 7) (h64 : I64 xs) :
 Calls Tryd.prog 20 #[.agg (dimV xs)] w fun e w' => e = .returned (.agg (dimV (xs.map (clampE 200)))) ∧ Below w.heap.size w w' := by
 have bz := (below_new w (.cells (dimV xs) 23))
 have HW := Lib.hid (below_two bz (below_new (w.alloc (.cells (dimV xs) 23)) (.cells (dimV dim0) 23)))
 have r0 := (rowA_new w 23 (dimV xs)).below (below_new _ (.cells (dimV dim0) 23))
 have r1 := rowA_new (w.alloc (.cells (dimV xs) 23)) 23 (dimV dim0)
 simp only [World.size_alloc] at r1
 have L0 := Lib.hid r0.inV
 have HT := Lib.hid (many7 hx)
 have HR0 := Lib.hid r0
 have HR1 := Lib.hid r1
 clear r0 r1 bz
 rw [dim0_V] at HW HR1 HR0 L0
 go_enter Tryd.func20, Tryd.ntmps20
 go_wp2_with (refine wpList_loadV (by rfl) 23 _ (by rfl) _ _ (by rfl) _ (by assumption) (by assumption) ?_)
 generalize (w.alloc (.cells (dimV xs) 23)).alloc (.cells #[.int .i64 0, .int .i64 0, .int .i64 0, .int .i64 0, .int .i64 0, .int .i64 0, .int .i64 0] 23) = w1 at *
 have HX := Lib.hid hx
 have H64 := Lib.hid h64
 clear L0 HT
 go_loopw [6] (fun iv wr => ∃ i : Nat, i ≤ 7 ∧ iv = .int .i64 (i : Int) ∧ RowKit.Hid (RowA wr w.heap.size 23 (dimV (nearTo xs i))) ∧ RowKit.Hid (RowA wr (w.heap.size + 1) 23 #[.int .i64 0, .int .i64 0, .int .i64 0, .int .i64 0, .int .i64 0, .int .i64 0, .int .i64 0]) ∧ RowKit.Hid (Below w.heap.size w wr)) (fun iv _ => 7 - (intOf iv).toNat)
 · refine ⟨0, by decide, rfl, ?_, HR1, HW⟩
   rw [nearTo_zero]
   exact HR0
 · obtain ⟨i, hi, rfl, hA, hB, hb⟩ := hrel
   clear HR0 HR1 HW hx h64
   by_cases h7 : i < 7
   · have hidx := fun W => index_dim HX.out i h7 W
     have hr := H64.out.at (i := i) (by rw [HX.out]; exact h7)
     have HS := Lib.hid (hA.out.setInt i (clampE 200 (xs.getD i 0)))
     have c0 := hA.out.int (i := i) (by rw [len_nearTo, HX.out]; exact h7)
     have f0 := hA.out.free i
     have HF := Lib.hid (hB.out.far (g' := w.heap.size) (by omega) i (.int .i64 (clampE 200 (xs.getD i 0))))
     have HB := Lib.hid (hb.out.setCell (p := ⟨w.heap.size, i, none⟩) (Nat.le_refl _) (.int .i64 (clampE 200 (xs.getD i 0))))
     rw [nearTo_step (by rw [HX.out]; exact h7)] at HS
     generalize xs.getD i 0 = x at *
     generalize (nearTo xs i).getD i 0 = y at *
     clear hA hB hb
     obtain ⟨hr1, hr2⟩ := hr
     go_wp2_with (go_at_call 18; refine (dClamp_c x 200 (by decide) (by decide) hr1 hr2).mono ?_; rintro e w' ⟨rfl, rfl⟩)
     exact ⟨⟨i + 1, by omega, by simp, HS, HF, HB⟩, by simp [intOf]; omega⟩
   · obtain rfl : i = 7 := by omega
     have hl : (xs.map (clampE 200)).length = 7 := by rw [List.length_map]; exact HX.out
     rw [nearTo_all HX.out] at hA
     have L0 := Lib.hid hA.out.inV
     have HT := Lib.hid (many7 hl)
     have HU := Lib.hid (fits7 hl)
     have HF := Lib.hid (hB.out.fill (V' := dimV (xs.map (clampE 200))))
     have HB := Lib.hid (below_fillRow hb.out (Nat.le_succ _) (dimV (xs.map (clampE 200))))
     have hz : Hid ((dimV (xs.map (clampE 200))).size = 7) := size_dimV hl
     go_wp2_with (first | (refine wpList_loadV (by rfl) 23 _ (by rfl) _ _ (by rfl) _ (by assumption) (by assumption) ?_) | (refine wpList_storeV (by rfl) 23 _ _ (by rfl) _ (by rfl) _ (by rfl) _ _ (by assumption) (by assumption) ?_))
     refine bodyPost_ret (results_cell_row rfl _ _ _ 23 (dimV (xs.map (clampE 200))) (0, 0) _ rfl HF.out Tryd.underlying23 rfl (size_info hz.out)) rfl ?_
     exact ⟨rfl, HB.out⟩
theorem equal_dim {ys : List Int} (hx : xs.length = 7) (hy : ys.length = 7) {b : Bool} (hb : decide (xs = ys) = b) (W : World) : (Op.equalIn 10000 23 (.agg (dimV xs)) (.agg (dimV ys))).run Tryd.prog W = .ok b W := by
 obtain ⟨i0, hi, hz0, hz1, hz2⟩ := info_parts int_info
 rw [← hb]
 exact run_equalIn_arr W Tryd.underlying23 hi Tryd.underlying3 (by kernel_rfl) hx hy
theorem near_good (xs : List Int) : decide (xs = xs.map (clampE 200)) = goodD xs := by
 rw [Bool.eq_iff_iff, decide_eq_true_eq, goodD_iff]
 constructor
 · intro h x hx
   rw [h] at hx
   obtain ⟨y, _, rfl⟩ := List.mem_map.1 hx
   unfold clampE; omega
 · intro h
   symm
   rw [List.map_congr_left (g := id) (fun x hx => by have := h x hx; unfold clampE; simp; omega), List.map_id]
end
end Go.Proofs.YtbljphnfijiciaaDoor

/- What package dim's Good answers, as a contract over memory. Condition: seven exponents. -/
namespace Go.Proofs.YtbljphnfijiciaaDoor
open Go.RowKit Limb
set_option linter.unusedVariables false
section
variable {w : World} {xs ys : List Int}
set_option maxHeartbeats 4000000 in
set_option maxRecDepth 100000 in
theorem dGood_c (hx : xs.length = 7) (h64 : I64 xs) (v : Bool) (hv : goodD xs = v) :
 Calls Tryd.prog 12 #[.agg (dimV xs)] w fun e w' => e = .returned (.bool v) ∧ Below w.heap.size w w' := by
 have b0 := below_new w (.cells (dimV xs) 23)
 have h_rx := rowA_new w 23 (dimV xs)
 have HB := Lib.hid b0
 have HX := Lib.hid hx
 have H64 := Lib.hid h64
 have HV := Lib.hid hv
 clear b0 hx h64 hv
 go_enter Tryd.func12, Tryd.ntmps12
 go_wp2_with fail
 generalize w.alloc (.cells (dimV xs) 23) = wS at *
 obtain ⟨q_x, eg⟩ : ∃ g, g = w.heap.size := ⟨_, rfl⟩
 rw [← eg] at h_rx ⊢
 clear eg
 refine region_free 4 1 [3, 4, 5, 6] ?aF1 (fun wx => Below wS.heap.size wS wx) (fun k vv wx => match k with
  | 0 => vv = .agg (dimV xs)
  | 1 => vv = .agg (dimV xs)
  | 2 => vv = .agg (dimV (xs.map (clampE 200)))
  | _ => vv = .bool v)
  (fun k => false) (by kernel_rfl) ?haF1 rfl (by kernel_rfl) (by kernel_rfl) (fun _ _ _ _ _ h => h) ?hSb1 ?hPb1 ?hS1 ?hop1 ?hfin1
 case haF1 =>
  intro vals
  simp only [fillAll, List.getElem?_cons_zero, List.getElem?_cons_succ, Act.put, List.setIfInBounds_toArray, List.set_cons_zero, List.set_cons_succ]
  exact rfl
 case hSb1 => exact fun wx w2 hb hS => below_two hS hb
 case hPb1 =>
  intro k v wa wb hb h
  match k, h with
  | 0, h => exact h
  | 1, h => exact h
  | 2, h => exact h
  | _ + 3, h => exact h
 case hS1 => exact (Below.refl _ _).drew
 case hop1 =>
  refine .cons (k := 0) ?_ (.cons (k := 1) ?_ (.cons (k := 2) ?_ (.cons (k := 3) ?_ (.nil))))
  all_goals intro vals wr hS hd KC hK
  all_goals (show Oper.wp _ _ _ _ _ _; dsimp only)
  · refine wp_loadV 23 _ rfl _ _ rfl (dimV xs) (Lib.hid (h_rx.below hS).inV) (Lib.hid (many7 HX.out)) ?_
    refine hK _ _ rfl (Below.refl _ _) (by first | rfl | simp) (fun h => by cases h)
  · refine wp_loadV 23 _ rfl _ _ rfl (dimV xs) (Lib.hid (h_rx.below hS).inV) (Lib.hid (many7 HX.out)) ?_
    refine hK _ _ rfl (Below.refl _ _) (by first | rfl | simp) (fun h => by cases h)
  · have d1 : vals 1 = _ := hd 1 (by decide +kernel)
    rw [d1]
    go_simp
    go_at_call 20
    with_reducible refine (dNearest_c HX.out H64.out).mono ?_
    rintro e w2 ⟨rfl, bn_r⟩
    refine hK _ _ rfl bn_r rfl (fun h => by cases h)
  · have d0 : vals 0 = _ := hd 0 (by decide +kernel)
    have d2 : vals 2 = _ := hd 2 (by decide +kernel)
    rw [d0, d2]
    have heq := fun W => equal_dim (xs := xs) (ys := xs.map (clampE 200)) HX.out (by rw [List.length_map]; exact HX.out) ((near_good xs).trans HV.out) W
    go_simp
    refine hK _ _ rfl (Below.refl _ _) (by first | rfl | simp) (fun h => by cases h)
 case hfin1 =>
  intro vals wr hS hP hne
  have ez_3 : vals 3 = _ := hP 3 (by decide)
  try dsimp only
  rw [ez_3]
  refine wpAny_ready (rs := [4]) (by kernel_rfl) (by simp) (AllReady.cons rfl (fun KC hK => ?_) AllReady.nil)
  go_simp
  refine hK _ _ ?_
  clear hK KC
  refine wpAny_done (by kernel_rfl) ?_ _
  go_wp2
  go_ret
  exact ⟨rfl, below_two HB.out hS⟩
def addN (xs ys : List Int) (n : Int) : List Int := List.zipWith (fun x y => x + n * y) xs ys
def withD (xs ys : List Int) (n : Int) : List Int × Int := if goodD xs = true ∧ goodD ys = true then mayD (addN xs ys n) else (dim0, 1)
def addTo (xs ys : List Int) (n : Int) (i : Nat) : List Int := (addN xs ys n).take i ++ xs.drop i
theorem len_addN {n : Int} (hx : xs.length = 7) (hy : ys.length = 7) : (addN xs ys n).length = 7 := by unfold addN; rw [List.length_zipWith, hx, hy]; rfl
theorem addTo_zero {n : Int} (h : xs.length = ys.length) : addTo xs ys n 0 = xs := by simp [addTo]
theorem addTo_all {n : Int} (hx : xs.length = 7) (hy : ys.length = 7) : addTo xs ys n 7 = addN xs ys n := by
 unfold addTo
 rw [List.take_of_length_le (by rw [len_addN hx hy]; decide), List.drop_of_length_le (by rw [hx]; decide), List.append_nil]
theorem addN_at {n : Int} {i : Nat} (h : i < xs.length) (k : i < ys.length) : (addN xs ys n).getD i 0 = xs.getD i 0 + n * ys.getD i 0 := by
 have hl : i < (List.zipWith (fun x y => x + n * y) xs ys).length := by rw [List.length_zipWith]; omega
 unfold addN
 simp only [List.getD_eq_getElem?_getD, List.getElem?_eq_getElem hl, List.getElem?_eq_getElem h, List.getElem?_eq_getElem k, List.getElem_zipWith, Option.getD_some]
theorem len_addTo {n : Int} {i : Nat} : (addTo xs ys n i).length = min i (min xs.length ys.length) + (xs.length - i) := by unfold addTo addN; simp
theorem addTo_at {n : Int} {i : Nat} (h : i < xs.length) (k : i < ys.length) : (addTo xs ys n i).getD i 0 = xs.getD i 0 := by
 have e : ((addN xs ys n).take i).length = i := by unfold addN; simp; omega
 unfold addTo
 rw [List.getD_eq_getElem?_getD, List.getElem?_append_right (by omega), e, Nat.sub_self, List.getElem?_drop, Nat.add_zero, List.getD_eq_getElem?_getD]
theorem addTo_step {n : Int} {i : Nat} (h : i < xs.length) (k : i < ys.length) : (addTo xs ys n i).set i (xs.getD i 0 + n * ys.getD i 0) = addTo xs ys n (i + 1) := by
 have hl : i < (addN xs ys n).length := by unfold addN; simp; omega
 have e : (addN xs ys n)[i] = xs.getD i 0 + n * ys.getD i 0 := by rw [← addN_at h k, List.getD_eq_getElem?_getD, List.getElem?_eq_getElem hl]; rfl
 unfold addTo
 rw [List.take_succ_eq_append_getElem hl, List.set_append_right _ _ (by simp; omega), List.append_assoc, e]
 congr 1
 rw [List.length_take, Nat.min_eq_left (by omega), Nat.sub_self, List.drop_eq_getElem_cons h]
 rfl
theorem good_at {i : Nat} (h : goodD xs = true) (hi : i < xs.length) : -200 ≤ xs.getD i 0 ∧ xs.getD i 0 ≤ 200 := by
 have e : xs.getD i 0 = xs[i] := by simp [List.getD_eq_getElem?_getD, hi]
 rw [e]; exact goodD_iff.1 h _ (List.getElem_mem _)
theorem times_bound {n y p : Int} (hn : -201 ≤ n ∧ n ≤ 201) (hy : -200 ≤ y ∧ y ≤ 200) (hp : n * y = p) : -40200 ≤ p ∧ p ≤ 40200 := by
 subst hp
 have h1 : (n * y).natAbs ≤ 201 * 200 := by
  rw [Int.natAbs_mul]
  exact Nat.mul_le_mul (by omega) (by omega)
 omega
theorem addN_i64 {n : Int} (hx : goodD xs = true) (hy : goodD ys = true) (hn : -201 ≤ n ∧ n ≤ 201) : I64 (addN xs ys n) := by
 intro z hz
 unfold addN at hz
 obtain ⟨i, hi, rfl⟩ := List.mem_iff_getElem.1 hz
 rw [List.getElem_zipWith]
 rw [List.length_zipWith] at hi
 have h1 := goodD_iff.1 hx _ (List.getElem_mem (n := i) (by omega))
 have h2 := goodD_iff.1 hy _ (List.getElem_mem (n := i) (by omega))
 have h3 := times_bound hn h2 rfl
 omega
theorem i64_good (h : goodD xs = true) : I64 xs := fun x hx => by have := goodD_iff.1 h x hx; omega
set_option maxHeartbeats 4000000 in
set_option maxRecDepth 100000 in
theorem dWith_c (hx_xs : xs.length = 7) (h64_xs : I64 xs) (hx_ys : ys.length = 7) (h64_ys : I64 ys) (n : Int) (hn : -201 ≤ n ∧ n ≤ 201) (R : List Int) (E : Int) (hR : withD xs ys n = (R, E)) :
 Calls Tryd.prog 17 #[.agg (dimV xs), .agg (dimV ys), .int .i64 n] w fun e w' => e = .returned (.tuple #[.agg (dimV R), .int .i64 E]) ∧ Below w.heap.size w w' := by
 unfold withD at hR
 have HN := Lib.hid hn
 have HX_xs := Lib.hid hx_xs
 have H64_xs := Lib.hid h64_xs
 have HM_xs := Lib.hid (many7 hx_xs)
 clear hx_xs h64_xs
 have HX_ys := Lib.hid hx_ys
 have H64_ys := Lib.hid h64_ys
 have HM_ys := Lib.hid (many7 hx_ys)
 clear hx_ys h64_ys
 by_cases ga : goodD xs = true
 · by_cases gb : goodD ys = true
   · rw [if_pos ⟨ga, gb⟩] at hR
     have Hga := Lib.hid ga
     have Hgb := Lib.hid gb
     have HR := Lib.hid hR
     clear ga gb hR
     have bw := bel_refl w
     have h_rxs := rowA_new w 23 (dimV xs)
     have bn := below_new w (.cells (dimV xs) 23)
     replace bw := below_two bw bn
     clear bn
     have h_rys := rowA_new (w.alloc (.cells (dimV xs) 23)) 23 (dimV ys)
     have bn := below_new (w.alloc (.cells (dimV xs) 23)) (.cells (dimV ys) 23)
     replace h_rxs := h_rxs.below bn
     replace bw := below_two bw bn
     clear bn
     have h_rz := rowA_new ((w.alloc (.cells (dimV xs) 23)).alloc (.cells (dimV ys) 23)) 23 #[.int .i64 0, .int .i64 0, .int .i64 0, .int .i64 0, .int .i64 0, .int .i64 0, .int .i64 0]
     have bn := below_new ((w.alloc (.cells (dimV xs) 23)).alloc (.cells (dimV ys) 23)) (.cells #[.int .i64 0, .int .i64 0, .int .i64 0, .int .i64 0, .int .i64 0, .int .i64 0, .int .i64 0] 23)
     replace h_rxs := h_rxs.below bn
     replace h_rys := h_rys.below bn
     replace bw := below_two bw bn
     clear bn
     simp only [World.size_alloc] at h_rys h_rz
     go_enter Tryd.func17, Tryd.ntmps17
     have HI_xs := Lib.hid h_rxs.inV
     go_wp2_with (refine wpList_loadV (by rfl) 23 _ (by rfl) _ _ (by rfl) _ (by assumption) (by assumption) ?_)
     clear HI_xs
     generalize ((w.alloc (.cells (dimV xs) 23)).alloc (.cells (dimV ys) 23)).alloc (.cells #[.int .i64 0, .int .i64 0, .int .i64 0, .int .i64 0, .int .i64 0, .int .i64 0, .int .i64 0] 23) = w1 at *
     obtain ⟨q_z, eg⟩ : ∃ g, g = w.heap.size + 1 + 1 := ⟨_, rfl⟩
     have hqz : Hid (w.heap.size ≤ q_z) := by show _ ≤ _; omega
     rw [← eg] at h_rz ⊢
     have ez := eg
     clear eg
     obtain ⟨q_ys, eg⟩ : ∃ g, g = w.heap.size + 1 := ⟨_, rfl⟩
     have hqys : Hid (w.heap.size ≤ q_ys ∧ q_ys ≠ q_z) := by constructor <;> omega
     rw [← eg] at h_rys ⊢
     have e_ys := eg
     clear eg
     obtain ⟨q_xs, eg⟩ : ∃ g, g = w.heap.size := ⟨_, rfl⟩
     have hqxs : Hid (w.heap.size ≤ q_xs ∧ q_xs ≠ q_z) := by constructor <;> omega
     rw [← eg] at h_rxs ⊢
     have e_xs := eg
     clear eg
     have hne_xs_ys : Hid (q_xs ≠ q_ys) := by show _ ≠ _; omega
     clear ez e_xs e_ys
     refine (dGood_c HX_xs.out H64_xs.out true Hga.out).mono ?_
     rintro e w2 ⟨rfl, bn⟩
     replace h_rxs := h_rxs.below bn
     replace h_rys := h_rys.below bn
     replace h_rz := h_rz.below bn
     replace bw := below_two bw bn
     clear bn
     have HI_ys := Lib.hid h_rys.inV
     go_wp2_with (refine wpList_loadV (by rfl) 23 _ (by rfl) _ _ (by rfl) _ (by assumption) (by assumption) ?_)
     clear HI_ys
     refine (dGood_c HX_ys.out H64_ys.out true Hgb.out).mono ?_
     rintro e w3 ⟨rfl, bn⟩
     replace h_rxs := h_rxs.below bn
     replace h_rys := h_rys.below bn
     replace h_rz := h_rz.below bn
     replace bw := below_two bw bn
     clear bn
     have HI_ys := Lib.hid h_rys.inV
     go_wp2_with (refine wpList_loadV (by rfl) 23 _ (by rfl) _ _ (by rfl) _ (by assumption) (by assumption) ?_)
     clear HI_ys
     go_loopw [20] (fun iv wr => ∃ i : Nat, i ≤ 7 ∧ iv = .int .i64 (i : Int) ∧ Hid (RowA wr q_xs 23 (dimV (addTo xs ys n i))) ∧ Hid (RowA wr q_z 23 #[.int .i64 0, .int .i64 0, .int .i64 0, .int .i64 0, .int .i64 0, .int .i64 0, .int .i64 0]) ∧ Hid (Below w.heap.size w wr)) (fun iv _ => 7 - (intOf iv).toNat)
     · exact ⟨0, by decide, rfl, by rw [addTo_zero (by rw [HX_xs.out, HX_ys.out])]; exact h_rxs, h_rz, bw⟩
     · obtain ⟨i, hi, rfl, hA, hB, hb⟩ := hrel
       clear h_rxs h_rys h_rz bw
       by_cases h7 : i < 7
       · have hidx := fun W => index_dim HX_ys.out i h7 W
         have hr1 := good_at Hga.out (i := i) (by rw [HX_xs.out]; exact h7)
         have hr2 := good_at Hgb.out (i := i) (by rw [HX_ys.out]; exact h7)
         obtain ⟨p, hp⟩ : ∃ p, n * ys.getD i 0 = p := ⟨_, rfl⟩
         have hpb := times_bound HN.out hr2 hp
         have hwp : wrap64 (n * ys.getD i 0) = p := by rw [hp]; exact IntWalk.wrap64_in p ⟨by omega, by omega⟩
         have hwq : IntKind.i64.wrap (n * ys.getD i 0) = p := by rw [hp, IntKind.wrap_i64]; omega
         have HS := Lib.hid (hA.out.setInt i (xs.getD i 0 + p))
         rw [← hp, addTo_step (by rw [HX_xs.out]; exact h7) (by rw [HX_ys.out]; exact h7), hp] at HS
         have c0 := hA.out.int (i := i) (by rw [len_addTo, HX_xs.out, HX_ys.out]; omega)
         rw [addTo_at (by rw [HX_xs.out]; exact h7) (by rw [HX_ys.out]; exact h7)] at c0
         have f0 := hA.out.free i
         have HF := Lib.hid (hB.out.far hqxs.out.2 i (.int .i64 (xs.getD i 0 + p)))
         have HB := Lib.hid (hb.out.setCell (p := ⟨q_xs, i, none⟩) hqxs.out.1 (.int .i64 (xs.getD i 0 + p)))
         generalize xs.getD i 0 = x at *
         generalize ys.getD i 0 = y at *
         clear hA hB hb hp hr2
         obtain ⟨hr1, hr2⟩ := hr1
         obtain ⟨hpb1, hpb2⟩ := hpb
         go_wp2
         exact ⟨⟨i + 1, by omega, by simp, HS, HF, HB⟩, by simp [intOf]; omega⟩
       · obtain rfl : i = 7 := by omega
         rw [addTo_all HX_xs.out HX_ys.out] at hA
         have h_rxs := hA.out
         have h_rz := hB.out
         have bw := hb.out
         clear hA hB hb h7
         have HL : Hid ((addN xs ys n).length = 7) := len_addN HX_xs.out HX_ys.out
         have HI64 : Hid (I64 (addN xs ys n)) := addN_i64 Hga.out Hgb.out HN.out
         have HM := Lib.hid (many7 HL.out)
         have HI_xs := Lib.hid h_rxs.inV
         go_wp2_with (refine wpList_loadV (by rfl) 23 _ (by rfl) _ _ (by rfl) _ (by assumption) (by assumption) ?_)
         clear HI_xs
         by_cases gz : goodD (addN xs ys n) = true
         · have Hgz := Lib.hid gz
           clear gz
           refine (dGood_c HL.out HI64.out true Hgz.out).mono ?_
           rintro e w41 ⟨rfl, bn⟩
           replace h_rxs := h_rxs.below bn
           replace h_rz := h_rz.below bn
           replace bw := below_two bw bn
           clear bn
           obtain ⟨rfl, rfl⟩ : addN xs ys n = R ∧ 0 = E := by have h := HR.out; rw [mayD, if_pos Hgz.out] at h; simpa using h
           have HZ : Hid ((dimV (addN xs ys n)).size = 7) := size_dimV HL.out
           have HU := Lib.hid (fits7 HL.out)
           have HM_r := Lib.hid (many7 HL.out)
           have HZr := Lib.hid h_rz
           have HF := Lib.hid (h_rz.fill (V' := dimV (addN xs ys n)))
           have HB := Lib.hid (below_fillRow bw hqz.out (dimV (addN xs ys n)))
           have HI_xs := Lib.hid h_rxs.inV
           go_wp2_with (first | (refine wpList_loadV (by rfl) 23 _ (by rfl) _ _ (by rfl) _ (by assumption) (by assumption) ?_) | (refine wpList_storeV (by rfl) 23 _ _ (by rfl) _ (by rfl) _ (by rfl) _ _ (by assumption) (by assumption) ?_))
           refine bodyPost_ret (results_mixed rfl _ _ _ 23 (dimV (addN xs ys n)) (0, 0) _ (.int .i64 0) rfl rfl HF.out Tryd.underlying23 rfl (size_info HZ.out)) rfl ?_
           exact ⟨rfl, HB.out⟩
         · have Hgz : Hid (goodD (addN xs ys n) = false) := by show _ = _; simpa using gz
           clear gz
           refine (dGood_c HL.out HI64.out false Hgz.out).mono ?_
           rintro e w41 ⟨rfl, bn⟩
           replace h_rxs := h_rxs.below bn
           replace h_rz := h_rz.below bn
           replace bw := below_two bw bn
           clear bn
           obtain ⟨rfl, rfl⟩ : dim0 = R ∧ 2 = E := by have h := HR.out; rw [mayD, if_neg (by rw [Hgz.out]; decide)] at h; simpa using h
           clear HL HM
           have HL : Hid (dim0.length = 7) := rfl
           have HZ : Hid ((dimV dim0).size = 7) := size_dimV HL.out
           have HU := Lib.hid (fits7 HL.out)
           have HM_r := Lib.hid (many7 HL.out)
           have HZr := Lib.hid h_rz
           have HF := Lib.hid (h_rz.fill (V' := dimV dim0))
           have HB := Lib.hid (below_fillRow bw hqz.out (dimV dim0))
           go_wp2_with (refine wpList_storeV (by rfl) 23 _ _ (by rfl) _ (by rfl) _ (by rfl) _ _ (by assumption) (by assumption) ?_)
           refine bodyPost_ret (results_mixed rfl _ _ _ 23 (dimV dim0) (0, 0) _ (.int .i64 2) rfl rfl HF.out Tryd.underlying23 rfl (size_info HZ.out)) rfl ?_
           exact ⟨rfl, HB.out⟩
   · rw [if_neg (fun h => gb h.2)] at hR
     have Hga := Lib.hid ga
     have Hgb : Hid (goodD ys = false) := by show _ = _; simpa using gb
     clear ga gb
     have bw := bel_refl w
     have h_rxs := rowA_new w 23 (dimV xs)
     have bn := below_new w (.cells (dimV xs) 23)
     replace bw := below_two bw bn
     clear bn
     have h_rys := rowA_new (w.alloc (.cells (dimV xs) 23)) 23 (dimV ys)
     have bn := below_new (w.alloc (.cells (dimV xs) 23)) (.cells (dimV ys) 23)
     replace h_rxs := h_rxs.below bn
     replace bw := below_two bw bn
     clear bn
     have h_rz := rowA_new ((w.alloc (.cells (dimV xs) 23)).alloc (.cells (dimV ys) 23)) 23 #[.int .i64 0, .int .i64 0, .int .i64 0, .int .i64 0, .int .i64 0, .int .i64 0, .int .i64 0]
     have bn := below_new ((w.alloc (.cells (dimV xs) 23)).alloc (.cells (dimV ys) 23)) (.cells #[.int .i64 0, .int .i64 0, .int .i64 0, .int .i64 0, .int .i64 0, .int .i64 0, .int .i64 0] 23)
     replace h_rxs := h_rxs.below bn
     replace h_rys := h_rys.below bn
     replace bw := below_two bw bn
     clear bn
     simp only [World.size_alloc] at h_rys h_rz
     go_enter Tryd.func17, Tryd.ntmps17
     have HI_xs := Lib.hid h_rxs.inV
     go_wp2_with (refine wpList_loadV (by rfl) 23 _ (by rfl) _ _ (by rfl) _ (by assumption) (by assumption) ?_)
     clear HI_xs
     generalize ((w.alloc (.cells (dimV xs) 23)).alloc (.cells (dimV ys) 23)).alloc (.cells #[.int .i64 0, .int .i64 0, .int .i64 0, .int .i64 0, .int .i64 0, .int .i64 0, .int .i64 0] 23) = w1 at *
     obtain ⟨q_z, eg⟩ : ∃ g, g = w.heap.size + 1 + 1 := ⟨_, rfl⟩
     have hqz : Hid (w.heap.size ≤ q_z) := by show _ ≤ _; omega
     rw [← eg] at h_rz ⊢
     have ez := eg
     clear eg
     obtain ⟨q_ys, eg⟩ : ∃ g, g = w.heap.size + 1 := ⟨_, rfl⟩
     have hqys : Hid (w.heap.size ≤ q_ys ∧ q_ys ≠ q_z) := by constructor <;> omega
     rw [← eg] at h_rys ⊢
     have e_ys := eg
     clear eg
     obtain ⟨q_xs, eg⟩ : ∃ g, g = w.heap.size := ⟨_, rfl⟩
     have hqxs : Hid (w.heap.size ≤ q_xs ∧ q_xs ≠ q_z) := by constructor <;> omega
     rw [← eg] at h_rxs ⊢
     have e_xs := eg
     clear eg
     have hne_xs_ys : Hid (q_xs ≠ q_ys) := by show _ ≠ _; omega
     clear ez e_xs e_ys
     refine (dGood_c HX_xs.out H64_xs.out true Hga.out).mono ?_
     rintro e w2 ⟨rfl, bn⟩
     replace h_rxs := h_rxs.below bn
     replace h_rys := h_rys.below bn
     replace h_rz := h_rz.below bn
     replace bw := below_two bw bn
     clear bn
     have HI_ys := Lib.hid h_rys.inV
     go_wp2_with (refine wpList_loadV (by rfl) 23 _ (by rfl) _ _ (by rfl) _ (by assumption) (by assumption) ?_)
     clear HI_ys
     refine (dGood_c HX_ys.out H64_ys.out false Hgb.out).mono ?_
     rintro e w3 ⟨rfl, bn⟩
     replace h_rxs := h_rxs.below bn
     replace h_rys := h_rys.below bn
     replace h_rz := h_rz.below bn
     replace bw := below_two bw bn
     clear bn
     obtain ⟨rfl, rfl⟩ : dim0 = R ∧ 1 = E := by simpa using hR
     have HL : Hid (dim0.length = 7) := rfl
     have HZ : Hid ((dimV dim0).size = 7) := size_dimV HL.out
     have HU := Lib.hid (fits7 HL.out)
     have HM_r := Lib.hid (many7 HL.out)
     have HZr := Lib.hid h_rz
     have HF := Lib.hid (h_rz.fill (V' := dimV dim0))
     have HB := Lib.hid (below_fillRow bw hqz.out (dimV dim0))
     go_wp2_with (refine wpList_storeV (by rfl) 23 _ _ (by rfl) _ (by rfl) _ (by rfl) _ _ (by assumption) (by assumption) ?_)
     refine bodyPost_ret (results_mixed rfl _ _ _ 23 (dimV dim0) (0, 0) _ (.int .i64 1) rfl rfl HF.out Tryd.underlying23 rfl (size_info HZ.out)) rfl ?_
     exact ⟨rfl, HB.out⟩
 · rw [if_neg (fun h => ga h.1)] at hR
   have Hga : Hid (goodD xs = false) := by show _ = _; simpa using ga
   clear ga
   have bw := bel_refl w
   have h_rxs := rowA_new w 23 (dimV xs)
   have bn := below_new w (.cells (dimV xs) 23)
   replace bw := below_two bw bn
   clear bn
   have h_rys := rowA_new (w.alloc (.cells (dimV xs) 23)) 23 (dimV ys)
   have bn := below_new (w.alloc (.cells (dimV xs) 23)) (.cells (dimV ys) 23)
   replace h_rxs := h_rxs.below bn
   replace bw := below_two bw bn
   clear bn
   have h_rz := rowA_new ((w.alloc (.cells (dimV xs) 23)).alloc (.cells (dimV ys) 23)) 23 #[.int .i64 0, .int .i64 0, .int .i64 0, .int .i64 0, .int .i64 0, .int .i64 0, .int .i64 0]
   have bn := below_new ((w.alloc (.cells (dimV xs) 23)).alloc (.cells (dimV ys) 23)) (.cells #[.int .i64 0, .int .i64 0, .int .i64 0, .int .i64 0, .int .i64 0, .int .i64 0, .int .i64 0] 23)
   replace h_rxs := h_rxs.below bn
   replace h_rys := h_rys.below bn
   replace bw := below_two bw bn
   clear bn
   simp only [World.size_alloc] at h_rys h_rz
   go_enter Tryd.func17, Tryd.ntmps17
   have HI_xs := Lib.hid h_rxs.inV
   go_wp2_with (refine wpList_loadV (by rfl) 23 _ (by rfl) _ _ (by rfl) _ (by assumption) (by assumption) ?_)
   clear HI_xs
   generalize ((w.alloc (.cells (dimV xs) 23)).alloc (.cells (dimV ys) 23)).alloc (.cells #[.int .i64 0, .int .i64 0, .int .i64 0, .int .i64 0, .int .i64 0, .int .i64 0, .int .i64 0] 23) = w1 at *
   obtain ⟨q_z, eg⟩ : ∃ g, g = w.heap.size + 1 + 1 := ⟨_, rfl⟩
   have hqz : Hid (w.heap.size ≤ q_z) := by show _ ≤ _; omega
   rw [← eg] at h_rz ⊢
   have ez := eg
   clear eg
   obtain ⟨q_ys, eg⟩ : ∃ g, g = w.heap.size + 1 := ⟨_, rfl⟩
   have hqys : Hid (w.heap.size ≤ q_ys ∧ q_ys ≠ q_z) := by constructor <;> omega
   rw [← eg] at h_rys ⊢
   have e_ys := eg
   clear eg
   obtain ⟨q_xs, eg⟩ : ∃ g, g = w.heap.size := ⟨_, rfl⟩
   have hqxs : Hid (w.heap.size ≤ q_xs ∧ q_xs ≠ q_z) := by constructor <;> omega
   rw [← eg] at h_rxs ⊢
   have e_xs := eg
   clear eg
   have hne_xs_ys : Hid (q_xs ≠ q_ys) := by show _ ≠ _; omega
   clear ez e_xs e_ys
   refine (dGood_c HX_xs.out H64_xs.out false Hga.out).mono ?_
   rintro e w2 ⟨rfl, bn⟩
   replace h_rxs := h_rxs.below bn
   replace h_rys := h_rys.below bn
   replace h_rz := h_rz.below bn
   replace bw := below_two bw bn
   clear bn
   obtain ⟨rfl, rfl⟩ : dim0 = R ∧ 1 = E := by simpa using hR
   have HL : Hid (dim0.length = 7) := rfl
   have HZ : Hid ((dimV dim0).size = 7) := size_dimV HL.out
   have HU := Lib.hid (fits7 HL.out)
   have HM_r := Lib.hid (many7 HL.out)
   have HZr := Lib.hid h_rz
   have HF := Lib.hid (h_rz.fill (V' := dimV dim0))
   have HB := Lib.hid (below_fillRow bw hqz.out (dimV dim0))
   go_wp2_with (refine wpList_storeV (by rfl) 23 _ _ (by rfl) _ (by rfl) _ (by rfl) _ _ (by assumption) (by assumption) ?_)
   refine bodyPost_ret (results_mixed rfl _ _ _ 23 (dimV dim0) (0, 0) _ (.int .i64 1) rfl rfl HF.out Tryd.underlying23 rfl (size_info HZ.out)) rfl ?_
   exact ⟨rfl, HB.out⟩
theorem mayD_len {zs R : List Int} {E : Int} (h : mayD zs = (R, E)) (hz : zs.length = 7) : R.length = 7 := by
 unfold mayD at h
 split at h
 · obtain ⟨rfl, _⟩ := Prod.mk.inj h; exact hz
 · obtain ⟨rfl, _⟩ := Prod.mk.inj h; rfl
theorem mulD_len {R : List Int} {E : Int} (h : mulD xs ys = (R, E)) (hx : xs.length = 7) (hy : ys.length = 7) : R.length = 7 := by
 unfold mulD at h
 split at h
 · exact mayD_len h (by rw [List.length_zipWith, hx, hy]; rfl)
 · obtain ⟨rfl, _⟩ := Prod.mk.inj h; rfl
theorem divD_len {R : List Int} {E : Int} (h : divD xs ys = (R, E)) (hx : xs.length = 7) (hy : ys.length = 7) : R.length = 7 := by
 unfold divD at h
 split at h
 · exact mayD_len h (by rw [List.length_zipWith, hx, hy]; rfl)
 · obtain ⟨rfl, _⟩ := Prod.mk.inj h; rfl
theorem powD_len {R : List Int} {E n : Int} (h : powD xs n = (R, E)) (hx : xs.length = 7) : R.length = 7 := by
 unfold powD at h
 split at h
 · exact mayD_len h (by rw [List.length_map, hx])
 · obtain ⟨rfl, _⟩ := Prod.mk.inj h; rfl
theorem mulD_with {R : List Int} {E : Int} (hx : xs.length = 7) (hy : ys.length = 7) (h : mulD xs ys = (R, E)) : withD xs ys 1 = (R, E) := by
 have e : addN xs ys 1 = List.zipWith (· + ·) xs ys := by unfold addN; congr 1; funext x y; omega
 unfold withD; rw [e]; exact h
theorem divD_with {R : List Int} {E : Int} (hx : xs.length = 7) (hy : ys.length = 7) (h : divD xs ys = (R, E)) : withD xs ys (-1) = (R, E) := by
 have e : addN xs ys (-1) = List.zipWith (· - ·) xs ys := by unfold addN; congr 1; funext x y; omega
 unfold withD; rw [e]; exact h
theorem dim0_i64 : I64 dim0 := by unfold I64 dim0; decide
theorem mayD_same {zs us : List Int} (h : goodD zs = goodD us) (h2 : goodD us = true → zs = us) : mayD zs = mayD us := by
 unfold mayD
 by_cases g : goodD us = true
 · rw [h2 g]
 · rw [if_neg g, if_neg (by rw [h]; exact g)]
theorem pow_mayD {n : Int} (h : goodD xs = true) : mayD (xs.map fun x => x * clampE 201 n) = mayD (xs.map (· * n)) := by
 have hc : clampE 201 n = max (-201) (min n 201) := rfl
 rw [hc]
 have hx := goodD_iff.1 h
 refine mayD_same ?_ fun hg => ?_
 · unfold goodD
   rw [List.all_map, List.all_map]
   clear h
   rw [Bool.eq_iff_iff, List.all_eq_true, List.all_eq_true]
   constructor
   · intro h x m; have := h x m; simp only [Function.comp] at this ⊢; rw [← (pow_clamp (hx x m)).1]; exact this
   · intro h x m; have := h x m; simp only [Function.comp] at this ⊢; rw [(pow_clamp (hx x m)).1]; exact this
 · refine List.map_congr_left fun x m => (pow_clamp (hx x m)).2 ?_
   unfold goodD at hg
   rw [List.all_map, List.all_eq_true] at hg
   exact hg x m
theorem powD_with {R : List Int} {E n : Int} (hx : xs.length = 7) (h : powD xs n = (R, E)) : withD dim0 xs (clampE 201 n) = (R, E) := by
 have e : addN dim0 xs (clampE 201 n) = xs.map fun x => x * clampE 201 n := by
  obtain ⟨a, b, c, d, e, f, g, rfl⟩ := len7 hx
  unfold addN dim0
  simp [Int.mul_comm]
 have hz : goodD dim0 = true := by decide
 unfold withD
 rw [← h, e]
 unfold powD
 by_cases g : goodD xs = true
 · rw [if_pos ⟨hz, g⟩, if_pos g, pow_mayD g]
 · rw [if_neg (fun h => g h.2), if_neg g]
set_option maxHeartbeats 4000000 in
set_option maxRecDepth 100000 in
theorem dMul_c (hx_xs : xs.length = 7) (h64_xs : I64 xs) (hx_ys : ys.length = 7) (h64_ys : I64 ys) (R : List Int) (E : Int) (hR : mulD xs ys = (R, E)) :
 Calls Tryd.prog 7 #[.agg (dimV xs), .agg (dimV ys)] w fun e w' => e = .returned (.tuple #[.agg (dimV R), .int .i64 E]) ∧ Below w.heap.size w w' := by
 have HX_xs := Lib.hid hx_xs
 have H64_xs := Lib.hid h64_xs
 have HM_xs := Lib.hid (many7 hx_xs)
 clear hx_xs h64_xs
 have HX_ys := Lib.hid hx_ys
 have H64_ys := Lib.hid h64_ys
 have HM_ys := Lib.hid (many7 hx_ys)
 clear hx_ys h64_ys
 have bw := bel_refl w
 have h_rxs := rowA_new w 23 (dimV xs)
 have bn := below_new w (.cells (dimV xs) 23)
 replace bw := below_two bw bn
 clear bn
 have h_rys := rowA_new (w.alloc (.cells (dimV xs) 23)) 23 (dimV ys)
 have bn := below_new (w.alloc (.cells (dimV xs) 23)) (.cells (dimV ys) 23)
 replace h_rxs := h_rxs.below bn
 replace bw := below_two bw bn
 clear bn
 have h_rz := rowA_new ((w.alloc (.cells (dimV xs) 23)).alloc (.cells (dimV ys) 23)) 23 #[.int .i64 0, .int .i64 0, .int .i64 0, .int .i64 0, .int .i64 0, .int .i64 0, .int .i64 0]
 have bn := below_new ((w.alloc (.cells (dimV xs) 23)).alloc (.cells (dimV ys) 23)) (.cells #[.int .i64 0, .int .i64 0, .int .i64 0, .int .i64 0, .int .i64 0, .int .i64 0, .int .i64 0] 23)
 replace h_rxs := h_rxs.below bn
 replace h_rys := h_rys.below bn
 replace bw := below_two bw bn
 clear bn
 simp only [World.size_alloc] at h_rys h_rz
 go_enter Tryd.func7, Tryd.ntmps7
 have HI_xs := Lib.hid h_rxs.inV
 have HI_ys := Lib.hid h_rys.inV
 go_wp2_with (refine wpList_loadV (by rfl) 23 _ (by rfl) _ _ (by rfl) _ (by assumption) (by assumption) ?_)
 clear HI_xs HI_ys
 generalize ((w.alloc (.cells (dimV xs) 23)).alloc (.cells (dimV ys) 23)).alloc (.cells #[.int .i64 0, .int .i64 0, .int .i64 0, .int .i64 0, .int .i64 0, .int .i64 0, .int .i64 0] 23) = w1 at *
 obtain ⟨q_z, eg⟩ : ∃ g, g = w.heap.size + 1 + 1 := ⟨_, rfl⟩
 have hqz : Hid (w.heap.size ≤ q_z) := by show _ ≤ _; omega
 rw [← eg] at h_rz ⊢
 have ez := eg
 clear eg
 obtain ⟨q_ys, eg⟩ : ∃ g, g = w.heap.size + 1 := ⟨_, rfl⟩
 have hqys : Hid (w.heap.size ≤ q_ys ∧ q_ys ≠ q_z) := by constructor <;> omega
 rw [← eg] at h_rys ⊢
 have e_ys := eg
 clear eg
 obtain ⟨q_xs, eg⟩ : ∃ g, g = w.heap.size := ⟨_, rfl⟩
 have hqxs : Hid (w.heap.size ≤ q_xs ∧ q_xs ≠ q_z) := by constructor <;> omega
 rw [← eg] at h_rxs ⊢
 have e_xs := eg
 clear eg
 have hne_xs_ys : Hid (q_xs ≠ q_ys) := by show _ ≠ _; omega
 clear ez e_xs e_ys
 have HL : Hid (R.length = 7) := mulD_len hR HX_xs.out HX_ys.out
 have HR := Lib.hid hR
 clear hR
 refine (dWith_c HX_xs.out H64_xs.out HX_ys.out H64_ys.out (1) (by decide) R E (mulD_with HX_xs.out HX_ys.out HR.out)).mono ?_
 rintro e w2 ⟨rfl, bn⟩
 replace h_rxs := h_rxs.below bn
 replace h_rys := h_rys.below bn
 replace h_rz := h_rz.below bn
 replace bw := below_two bw bn
 clear bn
 have HZ : Hid ((dimV R).size = 7) := size_dimV HL.out
 have HU := Lib.hid (fits7 HL.out)
 have HM_r := Lib.hid (many7 HL.out)
 have HZr := Lib.hid h_rz
 have HF := Lib.hid (h_rz.fill (V' := dimV R))
 have HB := Lib.hid (below_fillRow bw hqz.out (dimV R))
 go_wp2_with (refine wpList_storeV (by rfl) 23 _ _ (by rfl) _ (by rfl) _ (by rfl) _ _ (by assumption) (by assumption) ?_)
 refine bodyPost_ret (results_mixed rfl _ _ _ 23 (dimV R) (0, 0) _ (.int .i64 E) rfl rfl HF.out Tryd.underlying23 rfl (size_info HZ.out)) rfl ?_
 exact ⟨rfl, HB.out⟩
set_option maxHeartbeats 4000000 in
set_option maxRecDepth 100000 in
theorem dDiv_c (hx_xs : xs.length = 7) (h64_xs : I64 xs) (hx_ys : ys.length = 7) (h64_ys : I64 ys) (R : List Int) (E : Int) (hR : divD xs ys = (R, E)) :
 Calls Tryd.prog 8 #[.agg (dimV xs), .agg (dimV ys)] w fun e w' => e = .returned (.tuple #[.agg (dimV R), .int .i64 E]) ∧ Below w.heap.size w w' := by
 have HX_xs := Lib.hid hx_xs
 have H64_xs := Lib.hid h64_xs
 have HM_xs := Lib.hid (many7 hx_xs)
 clear hx_xs h64_xs
 have HX_ys := Lib.hid hx_ys
 have H64_ys := Lib.hid h64_ys
 have HM_ys := Lib.hid (many7 hx_ys)
 clear hx_ys h64_ys
 have bw := bel_refl w
 have h_rxs := rowA_new w 23 (dimV xs)
 have bn := below_new w (.cells (dimV xs) 23)
 replace bw := below_two bw bn
 clear bn
 have h_rys := rowA_new (w.alloc (.cells (dimV xs) 23)) 23 (dimV ys)
 have bn := below_new (w.alloc (.cells (dimV xs) 23)) (.cells (dimV ys) 23)
 replace h_rxs := h_rxs.below bn
 replace bw := below_two bw bn
 clear bn
 have h_rz := rowA_new ((w.alloc (.cells (dimV xs) 23)).alloc (.cells (dimV ys) 23)) 23 #[.int .i64 0, .int .i64 0, .int .i64 0, .int .i64 0, .int .i64 0, .int .i64 0, .int .i64 0]
 have bn := below_new ((w.alloc (.cells (dimV xs) 23)).alloc (.cells (dimV ys) 23)) (.cells #[.int .i64 0, .int .i64 0, .int .i64 0, .int .i64 0, .int .i64 0, .int .i64 0, .int .i64 0] 23)
 replace h_rxs := h_rxs.below bn
 replace h_rys := h_rys.below bn
 replace bw := below_two bw bn
 clear bn
 simp only [World.size_alloc] at h_rys h_rz
 go_enter Tryd.func8, Tryd.ntmps8
 have HI_xs := Lib.hid h_rxs.inV
 have HI_ys := Lib.hid h_rys.inV
 go_wp2_with (refine wpList_loadV (by rfl) 23 _ (by rfl) _ _ (by rfl) _ (by assumption) (by assumption) ?_)
 clear HI_xs HI_ys
 generalize ((w.alloc (.cells (dimV xs) 23)).alloc (.cells (dimV ys) 23)).alloc (.cells #[.int .i64 0, .int .i64 0, .int .i64 0, .int .i64 0, .int .i64 0, .int .i64 0, .int .i64 0] 23) = w1 at *
 obtain ⟨q_z, eg⟩ : ∃ g, g = w.heap.size + 1 + 1 := ⟨_, rfl⟩
 have hqz : Hid (w.heap.size ≤ q_z) := by show _ ≤ _; omega
 rw [← eg] at h_rz ⊢
 have ez := eg
 clear eg
 obtain ⟨q_ys, eg⟩ : ∃ g, g = w.heap.size + 1 := ⟨_, rfl⟩
 have hqys : Hid (w.heap.size ≤ q_ys ∧ q_ys ≠ q_z) := by constructor <;> omega
 rw [← eg] at h_rys ⊢
 have e_ys := eg
 clear eg
 obtain ⟨q_xs, eg⟩ : ∃ g, g = w.heap.size := ⟨_, rfl⟩
 have hqxs : Hid (w.heap.size ≤ q_xs ∧ q_xs ≠ q_z) := by constructor <;> omega
 rw [← eg] at h_rxs ⊢
 have e_xs := eg
 clear eg
 have hne_xs_ys : Hid (q_xs ≠ q_ys) := by show _ ≠ _; omega
 clear ez e_xs e_ys
 have HL : Hid (R.length = 7) := divD_len hR HX_xs.out HX_ys.out
 have HR := Lib.hid hR
 clear hR
 refine (dWith_c HX_xs.out H64_xs.out HX_ys.out H64_ys.out (-1) (by decide) R E (divD_with HX_xs.out HX_ys.out HR.out)).mono ?_
 rintro e w2 ⟨rfl, bn⟩
 replace h_rxs := h_rxs.below bn
 replace h_rys := h_rys.below bn
 replace h_rz := h_rz.below bn
 replace bw := below_two bw bn
 clear bn
 have HZ : Hid ((dimV R).size = 7) := size_dimV HL.out
 have HU := Lib.hid (fits7 HL.out)
 have HM_r := Lib.hid (many7 HL.out)
 have HZr := Lib.hid h_rz
 have HF := Lib.hid (h_rz.fill (V' := dimV R))
 have HB := Lib.hid (below_fillRow bw hqz.out (dimV R))
 go_wp2_with (refine wpList_storeV (by rfl) 23 _ _ (by rfl) _ (by rfl) _ (by rfl) _ _ (by assumption) (by assumption) ?_)
 refine bodyPost_ret (results_mixed rfl _ _ _ 23 (dimV R) (0, 0) _ (.int .i64 E) rfl rfl HF.out Tryd.underlying23 rfl (size_info HZ.out)) rfl ?_
 exact ⟨rfl, HB.out⟩
set_option maxHeartbeats 4000000 in
set_option maxRecDepth 100000 in
theorem dPow_c (hx_xs : xs.length = 7) (h64_xs : I64 xs) (n : Int) (n0 : -9223372036854775808 ≤ n) (n1 : n ≤ 9223372036854775807) (R : List Int) (E : Int) (hR : powD xs n = (R, E)) :
 Calls Tryd.prog 9 #[.agg (dimV xs), .int .i64 n] w fun e w' => e = .returned (.tuple #[.agg (dimV R), .int .i64 E]) ∧ Below w.heap.size w w' := by
 have hx7 := hx_xs
 have HX_xs := Lib.hid hx_xs
 have H64_xs := Lib.hid h64_xs
 have HM_xs := Lib.hid (many7 hx_xs)
 clear hx_xs h64_xs
 have HL : Hid (R.length = 7) := powD_len hR hx7
 have HR := Lib.hid hR
 have HN : Hid (-201 ≤ clampE 201 n ∧ clampE 201 n ≤ 201) := by constructor <;> (unfold clampE; omega)
 have HN0 := Lib.hid n0
 have HN1 := Lib.hid n1
 clear hR n0 n1
 clear hx7
 have bw := bel_refl w
 have h_rxs := rowA_new w 23 (dimV xs)
 have bn := below_new w (.cells (dimV xs) 23)
 replace bw := below_two bw bn
 clear bn
 have h_rz := rowA_new (w.alloc (.cells (dimV xs) 23)) 23 #[.int .i64 0, .int .i64 0, .int .i64 0, .int .i64 0, .int .i64 0, .int .i64 0, .int .i64 0]
 have bn := below_new (w.alloc (.cells (dimV xs) 23)) (.cells #[.int .i64 0, .int .i64 0, .int .i64 0, .int .i64 0, .int .i64 0, .int .i64 0, .int .i64 0] 23)
 replace h_rxs := h_rxs.below bn
 replace bw := below_two bw bn
 clear bn
 simp only [World.size_alloc] at h_rz
 go_enter Tryd.func9, Tryd.ntmps9
 go_wp2_with fail
 generalize (w.alloc (.cells (dimV xs) 23)).alloc (.cells #[.int .i64 0, .int .i64 0, .int .i64 0, .int .i64 0, .int .i64 0, .int .i64 0, .int .i64 0] 23) = w1 at *
 obtain ⟨q_z, eg⟩ : ∃ g, g = w.heap.size + 1 := ⟨_, rfl⟩
 have hqz : Hid (w.heap.size ≤ q_z) := by show _ ≤ _; omega
 rw [← eg] at h_rz ⊢
 have ez := eg
 clear eg
 obtain ⟨q_xs, eg⟩ : ∃ g, g = w.heap.size := ⟨_, rfl⟩
 have hqxs : Hid (w.heap.size ≤ q_xs ∧ q_xs ≠ q_z) := by constructor <;> omega
 rw [← eg] at h_rxs ⊢
 have e_xs := eg
 clear eg
 clear ez e_xs
 generalize w1 = wS at *
 refine region_freex 7 2 6 [6, 7, 8, 9, 10, 11, 12] ?aF2 (fun wx => Below wS.heap.size wS wx) (fun k vv wx => match k with
  | 0 => vv = .agg (dimV dim0)
  | 1 => vv = .agg (dimV xs)
  | 2 => vv = .int .i64 n
  | 3 => vv = .int .i64 (clampE 201 n)
  | 4 => vv = .tuple #[.agg (dimV R), .int .i64 E]
  | 5 => vv = .agg (dimV R)
  | _ => vv = .int .i64 E)
  (fun k => false) (by kernel_rfl) ?haF2 rfl (by kernel_rfl) (by kernel_rfl) (by decide) rfl (by kernel_rfl) (by kernel_rfl) ?hyx2 (fun _ _ _ _ _ h => h) ?hSb2 ?hPb2 ?hS2 ?hop2 ?hfin2
 case haF2 =>
  intro vals
  simp only [fillAll, List.getElem?_cons_zero, List.getElem?_cons_succ, Act.put, List.setIfInBounds_toArray, List.set_cons_zero, List.set_cons_succ]
  exact rfl
 case hyx2 =>
  intro vals wr hS hd o ho
  have d4 : vals 4 = _ := hd 4 (by decide) (by decide)
  cases ho
  try dsimp only
  rw [d4]
  exact ⟨rfl, _, fun _ => rfl, rfl⟩
 case hSb2 => exact fun wx w2 hb hS => below_two hS hb
 case hPb2 =>
  intro k v wa wb hb h
  match k, h with
  | 0, h => exact h
  | 1, h => exact h
  | 2, h => exact h
  | 3, h => exact h
  | 4, h => exact h
  | 5, h => exact h
  | _ + 6, h => exact h
 case hS2 => exact (Below.refl _ _).drew
 case hop2 =>
  refine .cons (k := 0) (.plain rfl ?_) (.cons (k := 1) (.plain rfl ?_) (.cons (k := 2) (.plain rfl ?_) (.cons (k := 3) (.plain rfl ?_) (.cons (k := 4) (.plain rfl ?_) (.cons (k := 5) (.plain rfl ?_) (.cons (k := 6) (.plain rfl ?_) (.nil)))))))
  all_goals intro vals wr hS hd KC hK
  all_goals (show Oper.wp _ _ _ _ _ _; dsimp only)
  · go_simp
    refine hK _ _ rfl (Below.refl _ _) (by first | rfl | simp) (fun h => by cases h)
  · refine wp_loadV 23 _ rfl _ _ rfl (dimV xs) (Lib.hid (h_rxs.below hS).inV) (Lib.hid HM_xs.out) ?_
    refine hK _ _ rfl (Below.refl _ _) (by first | rfl | simp) (fun h => by cases h)
  · go_simp
    refine hK _ _ rfl (Below.refl _ _) (by first | rfl | simp) (fun h => by cases h)
  · have d2 : vals 2 = _ := hd 2 (by decide +kernel)
    rw [d2]
    go_simp
    go_at_call 18
    with_reducible refine (dClamp_c n 201 (by decide) (by decide) HN0.out HN1.out).mono ?_
    rintro e w2 ⟨rfl, rfl⟩
    refine hK _ _ rfl (Below.refl _ _) rfl (fun h => by cases h)
  · have d0 : vals 0 = _ := hd 0 (by decide +kernel)
    have d1 : vals 1 = _ := hd 1 (by decide +kernel)
    have d3 : vals 3 = _ := hd 3 (by decide +kernel)
    rw [d0, d1, d3]
    go_simp
    go_at_call 17
    with_reducible refine (dWith_c rfl dim0_i64 HX_xs.out H64_xs.out (clampE 201 n) HN.out R E (powD_with HX_xs.out HR.out)).mono ?_
    rintro e w2 ⟨rfl, bn_r⟩
    refine hK _ _ rfl bn_r rfl (fun h => by cases h)
  · have d4 : vals 4 = _ := hd 4 (by decide +kernel)
    rw [d4]
    go_simp
    refine hK _ _ rfl (Below.refl _ _) rfl (fun h => by cases h)
  · have d4 : vals 4 = _ := hd 4 (by decide +kernel)
    rw [d4]
    go_simp
    refine hK _ _ rfl (Below.refl _ _) rfl (fun h => by cases h)
 case hfin2 =>
  intro vals wr hS hP hne
  have ez_5 : vals 5 = _ := hP 5 (by decide)
  have ez_6 : vals 6 = _ := hP 6 (by decide)
  have h_rz := h_rz.below hS
  have bw := below_two bw hS
  have HZ : Hid ((dimV R).size = 7) := size_dimV HL.out
  have HU := Lib.hid (fits7 HL.out)
  have HM_r := Lib.hid (many7 HL.out)
  have HZr := Lib.hid h_rz
  have HF := Lib.hid (h_rz.fill (V' := dimV R))
  have HB := Lib.hid (below_fillRow bw hqz.out (dimV R))
  try dsimp only
  rw [ez_5, ez_6]
  refine wpAny_ready (rs := [7]) (by kernel_rfl) (by simp) (AllReady.cons rfl (fun KC hK => ?_) AllReady.nil)
  refine wp_storeV 23 _ _ rfl _ rfl _ rfl _ _ HZr HU ?_
  refine hK _ _ ?_
  clear hK KC
  try dsimp only [Act.put]
  refine wpAny_ready (rs := [8]) (by kernel_rfl) (by simp) (AllReady.cons rfl (fun KC hK => ?_) AllReady.nil)
  go_simp
  refine hK _ _ ?_
  clear hK KC
  refine wpAny_done (by kernel_rfl) ?_ _
  go_wp2
  refine bodyPost_ret (results_mixed rfl _ _ _ 23 (dimV R) (0, 0) _ (.int .i64 E) rfl rfl HF.out Tryd.underlying23 rfl (size_info HZ.out)) rfl ?_
  exact ⟨rfl, HB.out⟩
end
end Go.Proofs.YtbljphnfijiciaaDoor

/- The text of a dimension as the library's calls make it: strconv.Itoa's numeral, strings.Join's text; the tables that package dim's Text reads. Condition: the variables read as listed. -/
namespace Go.Proofs.YtbljphnfijiciaaDoor
open Go.RowKit Limb
set_option linter.unusedVariables false
theorem decDigits_is (u : Nat) : (decT u).map UInt8.ofNat = Lib.decDigits u := by
 induction u using Nat.strongRecOn with
 | ind u ih =>
  rw [Lib.decDigits]
  by_cases h : u < 10
  · rw [dif_pos h, decT_small h]; rfl
  · rw [dif_neg h, decT_big (by omega), List.map_append, ih (u / 10) (by omega)]; rfl
theorem itoa_is (e : Int) : strOf (zT e) = ⟨(Lib.itoa e).toArray⟩ := by
 unfold strOf zT Lib.itoa
 by_cases h : e < 0
 · rw [if_pos h, if_pos h, List.map_cons, decDigits_is]; rfl
 · rw [if_neg h, if_neg h, decDigits_is, show e.toNat = e.natAbs by omega]
def byL (l : List Nat) : List UInt8 := l.map UInt8.ofNat
theorem tail_is (r : List (List Nat)) : Lib.joinTail [32] (r.map byL) = byL (behind r) := by
 induction r with
 | nil => rfl
 | cons p r ih =>
  unfold Lib.joinTail at ih ⊢
  rw [List.map_cons, List.map_cons, List.flatten_cons, ih, behind]
  unfold byL
  rw [List.map_cons, List.map_append]
  rfl
theorem join_is {l : List (List Nat)} (h : l ≠ []) : Lib.join (l.map byL) [32] = byL (joinB l) := by
 cases l with
 | nil => exact absurd rfl h
 | cons p r =>
  rw [List.map_cons, Lib.join_cons, tail_is, joinB_cons]
  unfold byL
  rw [List.map_append]
theorem dimT_is {xs : List Int} (h : pieces dimN xs ≠ []) : dimT xs = joinB (pieces dimN xs) := by
 have hg : dimGo dimN xs [] = joinB (pieces dimN xs) := by rw [dimGo_is _ _ _ dimN_words, if_pos rfl]
 have hn : joinB (pieces dimN xs) ≠ [] := by
  cases hc : pieces dimN xs with
  | nil => exact absurd hc h
  | cons p r =>
   rw [joinB_cons]
   obtain ⟨n, h1, e, h2⟩ := pieces_mem (ns := dimN) (es := xs) (p := p) (by rw [hc]; simp)
   intro he
   exact piece_ne (dimN_words n h1) (h2 ▸ (List.append_eq_nil_iff.1 he).1)
 unfold dimT
 rw [hg, if_neg hn]
theorem pieces_none : ∀ {ns : List (List Nat)} {es : List Int}, es.length = ns.length → pieces ns es = [] → es = List.replicate ns.length 0
 | [], [], _, _ => rfl
 | n :: ns, e :: es, hl, h => by
  unfold pieces at h
  by_cases e0 : e = 0
  · rw [if_pos e0] at h
    rw [e0, pieces_none (by simpa using hl) h]; rfl
  · rw [if_neg e0] at h; cases h
theorem pieces_ne {xs : List Int} (hx : xs.length = 7) (h : xs ≠ dim0) : pieces dimN xs ≠ [] := fun e => h (pieces_none (ns := dimN) hx e)
theorem dimT_zero : dimT dim0 = [49] := by decide
theorem pieces_step : ∀ {ns : List (List Nat)} {es : List Int} {i : Nat}, i < ns.length → i < es.length →
 pieces (ns.take (i + 1)) (es.take (i + 1)) = pieces (ns.take i) (es.take i) ++ (if es.getD i 0 = 0 then [] else [piece (ns.getD i []) (es.getD i 0)])
 | n :: ns, e :: es, 0, _, _ => by
  simp only [List.take_succ_cons, List.take_zero, pieces, List.getD_cons_zero, List.nil_append]
 | n :: ns, e :: es, i + 1, h, k => by
  rw [List.take_succ_cons, List.take_succ_cons, List.take_succ_cons, List.take_succ_cons, List.getD_cons_succ, List.getD_cons_succ]
  have ih := pieces_step (ns := ns) (es := es) (i := i) (by simpa using h) (by simpa using k)
  unfold pieces
  by_cases e0 : e = 0
  · rw [if_pos e0, if_pos e0]; exact ih
  · rw [if_neg e0, if_neg e0, ih]; rfl
def texts (l : List (List Nat)) : List Value := l.map fun p => .string (strOf p)
theorem texts_append (a b : List (List Nat)) : texts (a ++ b) = texts a ++ texts b := by simp [texts]
theorem pieces_len (xs : List Int) (i : Nat) : (pieces (dimN.take i) (xs.take i)).length ≤ i := by
 have h : ∀ (ns : List (List Nat)) (es : List Int), (pieces ns es).length ≤ ns.length := fun ns => by
  induction ns with
  | nil => intro es; cases es <;> exact Nat.le_refl _
  | cons n ns ih =>
   intro es
   cases es with
   | nil => exact Nat.zero_le _
   | cons e es =>
    have := ih es
    unfold pieces
    split
    · simp; omega
    · simp; omega
 have := h (dimN.take i) (xs.take i)
 rw [List.length_take] at this
 omega
theorem zT_short {e : Int} (h : -9223372036854775808 ≤ e ∧ e ≤ 9223372036854775807) : (zT e).length ≤ 20 := by
 have h1 : (decT e.natAbs).length ≤ 19 := decT_len_le (show e.natAbs < 10 ^ 19 by omega) (by decide)
 unfold zT
 split
 · simp; omega
 · omega
theorem name_short (i : Nat) : (dimN.getD i []).length ≤ 3 := by
 match i with
 | 0 | 1 | 2 | 3 | 4 | 5 | 6 => decide
 | i + 7 => simp [dimN]
theorem piece_short {n : List Nat} {e : Int} (hn : n.length ≤ 3) (h : -9223372036854775808 ≤ e ∧ e ≤ 9223372036854775807) : (piece n e).length ≤ 24 := by
 have := zT_short h
 unfold piece
 split
 · simp; omega
 · simp; omega
theorem join_short {l : List (List Nat)} (h : ∀ p ∈ l, p.length ≤ 24) : (joinB l).length ≤ 25 * l.length := by
 cases l with
 | nil => simp [joinB]
 | cons p r =>
  rw [joinB_cons]
  have hb : ∀ r : List (List Nat), (∀ p ∈ r, p.length ≤ 24) → (behind r).length ≤ 25 * r.length := fun r => by
   induction r with
   | nil => intro _; simp [behind]
   | cons q r ih =>
    intro hr
    have h1 := ih fun p hp => hr p (List.mem_cons_of_mem _ hp)
    have h2 := hr q (by simp)
    rw [behind]; simp; omega
  have h1 := hb r fun p hp => h p (List.mem_cons_of_mem _ hp)
  have h2 := h p (by simp)
  simp; omega
theorem piece_bytes {n : List Nat} {e : Int} (hn : Bytes n) : Bytes (piece n e) := by
 intro x hx
 unfold piece at hx
 rcases List.mem_append.1 hx with h | h
 · exact hn x h
 · split at h
   · cases h
   · rcases List.mem_cons.1 h with h | h
     · subst h; decide
     · exact zT_bytes e x h
theorem dimT_bytes (ds : List Int) : Bytes (dimT ds) := by
 have h : ∀ (ns : List (List Nat)) (es : List Int) (s : List Nat), (∀ n ∈ ns, Bytes n) → Bytes s → Bytes (dimGo ns es s) := fun ns => by
  induction ns with
  | nil => intro es s _ hs; cases es <;> exact hs
  | cons n ns ih =>
   intro es s hn hs
   cases es with
   | nil => exact hs
   | cons e es =>
    unfold dimGo
    refine ih es _ (fun m hm => hn m (List.mem_cons_of_mem _ hm)) ?_
    have hp : Bytes (piece n e) := piece_bytes (hn n (by simp))
    split
    · exact hs
    · split
      · exact hp
      · intro x hx
        rcases List.mem_append.1 hx with h | h
        · exact hs x h
        · rcases List.mem_cons.1 h with h | h
          · subst h; decide
          · exact hp x h
 unfold dimT
 split
 · intro x hx; simp at hx; subst hx; decide
 · exact h dimN ds [] (by unfold Bytes dimN; decide) (fun x hx => by cases hx)
def DTab (w : World) : Prop := (∀ i, i < 7 → w.cell? ⟨0, i, none⟩ = some (.string (strOf (dimN.getD i [])))) ∧ ∃ T fr, w.heap[1]? = some (.cells (Lib.pow10Tab.map fun z => Value.int .u64 z).toArray T fr)
theorem DTab.below {w w' : World} (h : DTab w) (hb : Below w.heap.size w w') : DTab w' := by
 obtain ⟨h1, T, fr, h2⟩ := h
 exact ⟨fun i hi => (hb.cell (p := ⟨0, i, none⟩) (Lib.lt_of_cell (h1 i hi))).trans (h1 i hi), T, fr, (hb.block _ (Array.getElem?_eq_some_iff.1 h2).1).trans h2⟩
theorem DTab.pow10 {w : World} (h : DTab w) {name : String} (hg : Tryd.prog.globalNamed name = some 1) : Lib.TabIs Tryd.prog w name .u64 Lib.pow10Tab := by
 obtain ⟨_, T, fr, h2⟩ := h
 unfold Lib.TabIs World.var?
 simp [hg, h2]
theorem pow10_tab {W : World} {name : String} {r : List (String × DataW Unit)} (h : laidMet Tryd.prog ((name, Lib.tabData .u64 Lib.pow10Tab) :: r) W) (hg : Tryd.prog.globalNamed name = some 1) :
 ∃ T fr, W.heap[1]? = some (.cells (Lib.pow10Tab.map fun z => Value.int .u64 z).toArray T fr) := by
 have hT := Lib.tabIs_of_head hg (t := 86) (by kernel_rfl) Tryd.underlying86 Tryd.underlying68 (by kernel_rfl) (by kernel_rfl) h
 unfold Lib.TabIs World.var? at hT
 rw [hg] at hT
 cases hb : W.heap[1]? with
 | none => simp [hb] at hT
 | some o =>
  cases o with
  | cells cs T fr => simp [hb] at hT; exact ⟨T, fr, by rw [hT]⟩
  | _ => simp [hb] at hT
def unitsL : List (List UInt8) := [[109], [107, 103], [115], [65], [75], [109, 111, 108], [99, 100]]
theorem units_tab {W : World} {name : String} {r : List (String × DataW Unit)} (h : laidMet Tryd.prog ((name, .agg (unitsL.map fun l => .lit (.string l))) :: r) W) (hg : Tryd.prog.globalNamed name = some 0) :
 ∀ i, i < 7 → W.cell? ⟨0, i, none⟩ = some (.string (strOf (dimN.getD i []))) := fun i hi => by
 obtain ⟨ps, ⟨g0, t0, cs0, f0, p0, q0, hg0, ht0, hv0, hd0, _, _⟩, _, _⟩ := h
 obtain rfl := Option.some.inj (hg.symm.trans hg0)
 have ht : (Tryd.prog.globals[0]?).map (·.type) = some 45 := by kernel_rfl
 obtain rfl := Option.some.inj (ht.symm.trans ht0)
 obtain ⟨f1, d, q, hd, hel⟩ := Lib.array_elem Tryd.underlying45 hd0 i hi
 have hc : Tryd.prog.cellsOf 9 = 1 := by kernel_rfl
 rw [hc, Nat.mul_one] at hel
 obtain ⟨s, hs1, hs2, _⟩ := DataW.trod_string Tryd.underlying9 hel
 have h2 := World.var?_cell hg0 hv0 i
 rw [← Array.getElem?_toList] at h2
 have h3 : cs0.toList[i]? = some (.string s) := by
  have h4 := congrArg (fun l : List Value => l[0]?) hs1
  simp only [List.getElem?_take, List.getElem?_drop, Nat.add_zero] at h4
  simpa using h4
 rw [h2, h3]
 have h5 : d = .lit (.string s.data.toList) := congrArg Prod.fst hs2
 subst h5
 have h6 : s.data.toList = unitsL.getD i [] := by
  rw [List.getElem?_map] at hd
  cases hu : unitsL[i]? with
  | none => rw [hu] at hd; cases hd
  | some l =>
   rw [hu] at hd
   injection hd with hd
   injection hd with hd
   injection hd with hd
   rw [List.getD_eq_getElem?_getD, hu]; exact hd.symm
 have h7 : s = strOf (dimN.getD i []) := by
  have h8 : ∀ i, i < 7 → unitsL.getD i [] = (dimN.getD i []).map UInt8.ofNat := by decide
  rw [h8 i hi] at h6
  obtain ⟨⟨l⟩⟩ := s
  show ByteArray.mk ⟨l⟩ = ⟨((dimN.getD i []).map UInt8.ofNat).toArray⟩
  have h9 : l = (dimN.getD i []).map UInt8.ofNat := h6
  rw [h9]
 rw [h7]
end Go.Proofs.YtbljphnfijiciaaDoor
