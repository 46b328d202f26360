/- Part 10 of the texts that the statements of this seat lean on: mathematics, and what functions answer, as contracts over memory; each part says its own conditions. -/
import Derived.Test.YtohokfbohdoijaaGreatDoorM9
import Derived.Defers
import Derived.Laws.LoneSync
import Derived.LoopIn
/- What package sync's Once does for a table of units that was not yet asked, and for one that was, as contracts: the lock, the slow road, the two calls that it defers. Conditions: the lock is free; the table of prefixes reads as it is laid. -/
namespace Go.Proofs.YtohokfbohdoijaaGreatDoor
open Go.RowKit Limb
set_option linter.unusedVariables false
theorem grown_trans {w w1 w2 : World} {r : Option Nat} (h : w.grownBy w1 r) (k : w1.grownBy w2 r) : w.grownBy w2 r :=
 ⟨k.os.trans h.os, k.tape.trans h.tape, k.output.trans h.output, Nat.le_trans h.size k.size, fun i hi hr => (k.block i (Nat.lt_of_lt_of_le hi h.size) hr).trans (h.block i hi hr)⟩
theorem grown_of {w w' : World} (h : Below w.heap.size w w') (r : Option Nat) : w.grownBy w' r := ⟨h.os, h.tape, h.output, h.size, fun i hi _ => h.block i hi⟩
theorem grown_cell (w : World) (g k : Nat) (v : Value) : w.grownBy (w.setCell ⟨g, k, none⟩ v) (some g) :=
 ⟨rfl, rfl, rfl, by simp, fun i _ hr => Below.heap_setCell w _ v i (fun e => hr (by subst e; rfl))⟩
theorem grown_drew {w w' : World} {r : Option Nat} (h : w.grownBy w' r) : w.grownBy w'.drew r := grown_trans h (grown_of (Below.refl _ _).drew r)
def Noughts (V : Array Value) : Prop := ∀ (k : Nat) (x : Int), V[k]? = some (Value.int .u32 x) → x = 0
theorem IsN.over {w w' : World} {tb : Nat} {T : TypeId} {V : Array Value} (r : RowA w tb T V) (hz : Noughts V) (hg : w.grownBy w' (some tb)) {A : Option Addr} {n a : Nat} (hn : IsN w A n (limbs a)) : IsN w' A n (limbs a) := by
 refine ⟨hn.1, hn.2.1, fun h0 => ?_⟩
 obtain ⟨b, o, e, hlt, hc⟩ := hn.2.2 h0
 have hl := hn.1
 have hlast : lim (limbs a) (n - 1) ≠ 0 := by
  rcases (trimmed_iff hn.2.1).1 (by rw [val_limbs]) with h | h
  · rw [h] at hl; simp at hl; omega
  · rwa [hl] at h
 have hb : b ≠ tb := by
  rintro rfl
  have h2 := hc (n - 1) (by omega)
  rw [cell_of_block r] at h2
  have := hz _ _ h2
  omega
 have e2 := hg.block b hlt (fun e => hb (by injection e))
 exact ⟨b, o, e, Nat.lt_of_lt_of_le hlt hg.size, fun j hj => by rw [World.cell?_of_block e2]; exact hc j hj⟩
theorem UV.over {w w' : World} {tb : Nat} {T : TypeId} {V : Array Value} (r : RowA w tb T V) (hz : Noughts V) (hg : w.grownBy w' (some tb)) {v : Array Value} {o : Option Rat} {xs : List Int} (h : UV w v o xs) : UV w' v o xs := by
 obtain ⟨A, n, c, C, m, d, e, hq, hx⟩ := h
 exact ⟨A, n, c, C, m, d, e, ⟨⟨⟨hq.top.nn.isN.over r hz hg, hq.top.nn.val, hq.top.nn.cap, hq.top.nn.le⟩, hq.top.sgn⟩, ⟨hq.bot.isN.over r hz hg, hq.bot.val, hq.bot.cap, hq.bot.le⟩, hq.rd⟩, hx⟩
theorem MapU.over {w w' : World} {tb : Nat} {T : TypeId} {V : Array Value} (r : RowA w tb T V) (hz : Noughts V) (hg : w.grownBy w' (some tb)) {b : Nat} {M : Tb} (h : MapU w b M) : MapU w' b M := by
 obtain ⟨D, h1, h2, h3, h4⟩ := h
 have hb : b ≠ tb := by
  rintro rfl
  obtain ⟨es, c, hb, _⟩ := h1
  unfold RowA at r
  rw [hb] at r; cases r
 refine ⟨D, ownsMap_of_eq h1 (hg.block b h1.lt (fun e => hb (by injection e))), h2, fun k hk => ⟨(h3 k hk).1, fun u hu => ?_⟩, h4⟩
 obtain ⟨a, v, e, hv⟩ := (h3 k hk).2 u hu
 exact ⟨a, v, e, hv.over r hz hg⟩
theorem noughts_tab (a : Int) (m : Option Nat) : Noughts #[.int .u32 0, .int .i32 a, .int .u32 0, .map m] := by
 intro k x h
 match k, h with
 | 0, h => simpa using h.symm
 | 1, h => simp at h
 | 2, h => simpa using h.symm
 | 3, h => simp at h
 | k + 4, h => simp at h
theorem UTab.cell {w : World} {tb : Nat} {d : Int} {m : Option Nat} (h : UTab w) (hr : RowA w tb 95 #[.int .u32 d, .int .i32 0, .int .u32 0, .map m]) (k : Nat) (v : Value) : UTab (w.setCell ⟨tb, k, none⟩ v) := by
 have hne : tb ≠ 0 := by
  rintro rfl
  have h1 := h 0 (.string (Limb.strOf [])) rfl
  have h2 := hr.cell (k := 0) (v := .int .u32 d) rfl
  rw [Nat.zero_add] at h1
  rw [h1] at h2; cases h2
 intro j v2 hv
 rw [← h j v2 hv]
 exact World.cell?_of_block (Below.heap_setCell w _ v _ (fun e => hne e.symm))
/-! ### sync -/
theorem sDisable (w : World) : (callFunc 186 #[]).run Tryz.prog w = .ok (.value (.tuple #[])) w := run_call_mark0 Tryz.func186 (by kernel_rfl) (by kernel_rfl) (by kernel_rfl) .disable (by kernel_rfl) w
theorem sEnable (w : World) : (callFunc 188 #[]).run Tryz.prog w = .ok (.value (.tuple #[])) w := run_call_mark0 Tryz.func188 (by kernel_rfl) (by kernel_rfl) (by kernel_rfl) .enable (by kernel_rfl) w
theorem sAcquire (a : Addr) (w : World) : (callFunc 189 #[.pointer (some a)]).run Tryz.prog w = .ok (.value (.tuple #[])) w := run_call_marked Tryz.func189 (by kernel_rfl) (by kernel_rfl) (by kernel_rfl) .acquire (by kernel_rfl) a w
theorem sRelease (a : Addr) (w : World) : (callFunc 191 #[.pointer (some a)]).run Tryz.prog w = .ok (.value (.tuple #[])) w := run_call_marked Tryz.func191 (by kernel_rfl) (by kernel_rfl) (by kernel_rfl) .releaseMerge (by kernel_rfl) a w
theorem sConv {src : TypeId} (h : Tryz.f171.params = #[src]) {a : Addr} {v : Value} {w : World} (hc : w.cell? a = some v) : (convert src 224 (.pointer (some a))).run Tryz.prog w = .ok (.pointer (some a)) w := by
 have e1 : (Tryz.f171.params[0]?.bind fun s => Tryz.prog.underlying s) = some (.pointer 88) := by kernel_rfl
 rw [h] at e1
 have e2 : Tryz.prog.underlying src = some (.pointer 88) := by simpa using e1
 exact run_convert_to_unsafe e2 Tryz.underlying224 (by kernel_rfl) hc
set_option maxRecDepth 100000 in
/-- The store of a true flag, as a deferred call. -/
theorem sStore_d (a : Addr) (x : Value) (u : FrameMode) (w : World) (hc : w.cell? a = some x) (hz : w.frozen? a = false) :
 CallsD Tryz.prog 143 #[.pointer (some a), .bool true] u w fun e u' w' => u' = u ∧ (e = .returned (.tuple #[]) ∧ w' = w.drew.setCell a (.int .u32 1)) := by
 have hc' : w.drew.cell? a = some x := by go_simp
 have hz' : w.drew.frozen? a = false := by go_simp
 have hst := run_call_store (P := Tryz.prog) Tryz.func173 (by kernel_rfl) (by kernel_rfl) (by kernel_rfl) (by kernel_rfl) (k := .u32) (y := 1) hc' hz'
 go_enter_d Tryz.func143, Tryz.ntmps143
 go_wp2
 go_region_calls
 all_goals (go_end0; exact ⟨rfl, rfl⟩)
set_option maxRecDepth 100000 in
/-- The unlock, as a deferred call; the lock is held, and nobody waits. -/
theorem sUnlock_d (a : Addr) (u : FrameMode) (w : World) (hc : w.cell? a = some (.int .i32 1)) (hz : w.frozen? a = false) :
 CallsD Tryz.prog 142 #[.pointer (some a)] u w fun e u' w' => u' = u ∧ (e = .returned (.tuple #[]) ∧ w' = w.setCell a (.int .i32 0)) := by
 have hd := sDisable
 have he := sEnable
 have hr := sRelease
 have hadd := run_call_add (P := Tryz.prog) Tryz.func192 (by kernel_rfl) (by kernel_rfl) (by kernel_rfl) .i32 (by kernel_rfl) (y := -1) (s := 0) hc hz (by simp [go_sem]; rfl)
 have hcv := sConv Tryz.params171 hc
 go_enter_d Tryz.func142, Tryz.ntmps142
 go_wp2
 go_end0
 go_wp2
 go_end0
 exact ⟨rfl, rfl⟩
set_option maxRecDepth 100000 in
/-- The lock, where it is free. -/
theorem sLock_c (a : Addr) (w : World) (hc : w.cell? a = some (.int .i32 0)) (hz : w.frozen? a = false) :
 Calls Tryz.prog 141 #[.pointer (some a)] w fun e w' => e = .returned (.tuple #[]) ∧ w' = w.setCell a (.int .i32 1) := by
 have hd := sDisable
 have he := sEnable
 have ha := sAcquire
 have hcas := run_call_cas_hit (P := Tryz.prog) Tryz.func187 (by kernel_rfl) (by kernel_rfl) (by kernel_rfl) .i32 (by kernel_rfl) (y := 1) hc hz
 have hc' : (w.setCell a (.int .i32 1)).cell? a = some (.int .i32 1) := World.cell?_setCell_same w a _ hc
 have hcv := sConv Tryz.params171 hc'
 go_enter Tryz.func141, Tryz.ntmps141
 go_wp2
 first | go_end0 | (simp only [Exit.inBlock, Exit.then]; refine bodyPost_ret (results_none rfl _ _ _) rfl ?_) | refine bodyPost_ret (results_none rfl _ _ _) rfl ?_
 go_wp2
 go_end0
 exact ⟨rfl, rfl⟩
end Go.Proofs.YtohokfbohdoijaaGreatDoor

/- What the first call of a table of units does: sync.Once's slow road with the closure that makes the table; what known answers. Conditions: the lock is free; the table of prefixes reads as it is laid. -/
namespace Go.Proofs.YtohokfbohdoijaaGreatDoor
open Go.RowKit Limb
set_option linter.unusedVariables false
theorem uStandard_o (w0 w : World) (h : w0.heap.size ≤ w.heap.size) (T : UTab w) : Calls Tryz.prog 75 #[] w fun e w' => ∃ mb, e = .returned (.map (some mb)) ∧ Over w0 mb w' ∧ MapU w' mb stdU ∧ Below w.heap.size w w' :=
 (uStandard_c w T).mono fun e w' ⟨mb, e1, e2, e3⟩ => ⟨mb, e1, Nat.le_trans h e2, e3⟩
set_option maxHeartbeats 4000000 in
set_option maxRecDepth 100000 in
theorem uMake_c {w : World} {tb pl : Nat} (T : UTab w) (hp : RowA w pl 23 #[.pointer (some ⟨tb, 0, none⟩)]) (a : Int) (hr : RowA w tb 95 #[.int .u32 0, .int .i32 a, .int .u32 0, .map none]) :
 Calls Tryz.prog 74 #[.pointer (some ⟨pl, 0, none⟩)] w fun e w' => e = .returned (.tuple #[]) ∧ ∃ mb, w.heap.size ≤ mb ∧ RowA w' tb 95 #[.int .u32 0, .int .i32 a, .int .u32 0, .map (some mb)] ∧ MapU w' mb stdU ∧ w.grownBy w' (some tb) := by
 go_enter Tryz.func74, Tryz.ntmps74
 go_wp2_with fail
 refine region_free 4 1 [1, 2, 3, 4] ?aF1 (fun wx => Below w.heap.size w wx) (fun k vv wx => match k with
  | 0 => vv = .pointer (some ⟨tb, 0, none⟩)
  | 1 => ∃ (e0 : Nat), vv = .map (some e0) ∧ Over w e0 wx ∧ MapU wx e0 stdU
  | 2 => vv = .pointer (some ⟨tb, 0, none⟩)
  | _ => vv = .pointer (some ⟨tb, 3, none⟩))
  (fun k => false) (by kernel_rfl) ?haF1 rfl (by kernel_rfl) (by kernel_rfl) (fun _ _ _ _ _ h => h) ?hSb1 ?hPb1 ?hS1 ?hop1 ?hfin1
 case haF1 =>
  intro vals
  simp only [fillAll, List.getElem?_cons_zero, List.getElem?_cons_succ, Act.put, List.setIfInBounds_toArray, List.set_cons_zero, List.set_cons_succ]
  exact rfl
 case hSb1 => exact fun wx w2 hb hS => below_two hS hb
 case hPb1 =>
  intro k v wa wb hb h
  match k, h with
  | 0, h => exact h
  | 1, ⟨e0, h1, g0, g1⟩ => exact ⟨e0, h1, g0.below hb, g1.below hb⟩
  | 2, h => exact h
  | _ + 3, h => exact h
 case hS1 => exact (Below.refl _ _).drew
 case hop1 =>
  refine .cons (k := 0) ?_ (.cons (k := 1) ?_ (.cons (k := 2) ?_ (.cons (k := 3) ?_ (.nil))))
  all_goals intro vals wr hS hd KC hK
  all_goals (show Oper.wp _ _ _ _ _ _; dsimp only)
  · have z0 := (hp.below hS).cell (k := 0) (v := .pointer (some ⟨tb, 0, none⟩)) rfl
    go_simp
    refine hK _ _ rfl (Below.refl _ _) (by first | rfl | simp) (fun h => by cases h)
  · go_simp
    go_at_call 75
    with_reducible refine (uStandard_o w wr hS.size (T.below hS)).mono ?_
    rintro e w2 ⟨r0, rfl, f0, f1, bn_r⟩
    refine hK _ _ rfl bn_r ⟨_, rfl, f0, f1⟩ (fun h => by cases h)
  · have d0 : vals 0 = _ := hd 0 (by decide +kernel)
    rw [d0]
    go_simp
    refine hK _ _ rfl (Below.refl _ _) (by first | rfl | simp) (fun h => by cases h)
  · have d2 : vals 2 = _ := hd 2 (by decide +kernel)
    rw [d2]
    go_simp
    refine hK _ _ rfl (Below.refl _ _) (by first | rfl | simp) (fun h => by cases h)
 case hfin1 =>
  intro vals wr hS hP hne
  obtain ⟨n_1_0, ez_1, h_1_0, h_1_1⟩ := hP 1 (by decide)
  have ez_3 : vals 3 = _ := hP 3 (by decide)
  have hr2 := hr.below hS
  have c3 := hr2.cell (k := 3) (v := .map none) rfl
  have f3 := hr2.free 3
  have hr3 := Lib.hid (hr2.set 3 (.map (some n_1_0)))
  have hg := Lib.hid (grown_trans (grown_of hS (some tb)) (grown_cell wr tb 3 (.map (some n_1_0))))
  have hM := Lib.hid (MapU.over hr2 (noughts_tab a none) (grown_cell wr tb 3 (.map (some n_1_0))) h_1_1)
  try dsimp only
  rw [ez_1, ez_3]
  refine wpAny_ready (rs := [4]) (by kernel_rfl) (by simp) (AllReady.cons rfl (fun KC hK => ?_) AllReady.nil)
  go_simp
  refine hK _ _ ?_
  clear hK KC
  refine wpAny_done (by kernel_rfl) ?_ _
  go_wp2
  go_end0
  exact ⟨rfl, n_1_0, h_1_0, hr3.out, hM.out, hg.out⟩
set_option maxHeartbeats 4000000 in
set_option maxRecDepth 100000 in
theorem uSlow_c {w : World} {tb pl : Nat} (T : UTab w) (hp : RowA w pl 23 #[.pointer (some ⟨tb, 0, none⟩)]) (hr : TabF w tb) :
 Calls Tryz.prog 111 #[.pointer (some ⟨tb, 0, none⟩), .func (.func 74) #[] #[.pointer (some ⟨pl, 0, none⟩)]] w fun e w' => e = .returned (.tuple #[]) ∧ ∃ mb, w.heap.size ≤ mb ∧ RowA w' tb 95 (tabV 1 (some mb)) ∧ MapU w' mb stdU ∧ w.grownBy w' (some tb) := by
 have hpt : pl ≠ tb := by
  rintro rfl
  have e1 : w.heap[pl]? = _ := hr
  have e2 : w.heap[pl]? = _ := hp
  rw [e1] at e2
  injection e2 with e2
  injection e2 with e2
  simp at e2
 have hr0 : RowA w tb 95 #[.int .u32 0, .int .i32 0, .int .u32 0, .map none] := hr
 have c0 := hr0.cell (k := 0) (v := .int .u32 0) rfl
 have c1 := hr0.cell (k := 1) (v := .int .i32 0) rfl
 have f1 := hr0.free 1
 have hr1 : RowA (w.setCell ⟨tb, 1, none⟩ (.int .i32 1)) tb 95 #[.int .u32 0, .int .i32 1, .int .u32 0, .map none] := hr0.set 1 _
 have hp1 := hp.far (g' := tb) (Ne.symm hpt) 1 (.int .i32 1)
 have hT1 : UTab (w.setCell ⟨tb, 1, none⟩ (.int .i32 1)) := T.cell (by exact hr) 1 _
 have hg1 := Lib.hid (grown_cell w tb 1 (.int .i32 1))
 have hl := run_call_load (P := Tryz.prog) Tryz.func140 (by kernel_rfl) (by kernel_rfl) (by kernel_rfl) .u32 (by kernel_rfl) (w := w.setCell ⟨tb, 1, none⟩ (.int .i32 1)) (a := ⟨tb, 0, none⟩) (x := 0) (hr1.cell rfl)
 have hnot : ∀ (x : Bool) (w : World), (Op.unary .not (.bool x)).run Tryz.prog w = .ok (.bool (!x)) w := fun _ _ => rfl
 have HR1 := Lib.hid hr1
 have HP1 := Lib.hid hp1
 have HT1 := Lib.hid hT1
 clear hr hr0 hp T hr1 hp1 hT1
 go_enter_defers Tryz.func111, Tryz.ntmps111
 go_wp2_with (go_at_call 141; refine (sLock_c ⟨tb, 1, none⟩ _ (by go_simp) (by go_simp)).mono ?_; rintro e w' ⟨rfl, rfl⟩)
 go_wp2_with (first | (go_at_call 110; go_in) | (go_at_call 74; refine (uMake_c HT1.out HP1.out 1 HR1.out).mono ?_; rintro e w2 ⟨rfl, mb, hmb, hr2, hM, hg2⟩))
 have hr3 := hr2.drew.set 0 (.int .u32 1)
 have hr4 := hr3.set 1 (.int .i32 0)
 have hgE := grown_trans (grown_drew hg2) (grown_cell w2.drew tb 0 (.int .u32 1))
 have hgF := grown_trans hgE (grown_cell (w2.drew.setCell ⟨tb, 0, none⟩ (.int .u32 1)) tb 1 (.int .i32 0))
 have hgM : w2.grownBy ((w2.drew.setCell ⟨tb, 0, none⟩ (.int .u32 1)).setCell ⟨tb, 1, none⟩ (.int .i32 0)) (some tb) :=
  grown_trans (grown_trans (grown_of (Below.refl _ _).drew _) (grown_cell w2.drew tb 0 (.int .u32 1))) (grown_cell _ tb 1 (.int .i32 0))
 refine leaves_cons (f := 143) (args := #[.pointer (some ⟨tb, 0, none⟩), .bool true]) (by simp) (by simp [go_sem]) ?_
 refine (sStore_d ⟨tb, 0, none⟩ (.int .u32 0) .returning _ (hr2.cell rfl) (hr2.free 0)).mono ?_
 rintro e u' w'' ⟨rfl, rfl, rfl⟩
 refine leaves_cons (f := 142) (args := #[.pointer (some ⟨tb, 1, none⟩)]) (by simp [settle]) (by simp [go_sem]) ?_
 refine (sUnlock_d ⟨tb, 1, none⟩ _ _ (hr3.cell rfl) (hr3.free 1)).mono ?_
 rintro e u' w'' ⟨rfl, rfl, rfl⟩
 simp [Leaves, settle, results, Tryz.results111]
 exact ⟨mb, by have := hmb; simpa using this, hr4, MapU.over hr2 (noughts_tab 1 (some mb)) hgM hM, grown_trans hg1.out hgF⟩
set_option maxHeartbeats 4000000 in
set_option maxRecDepth 100000 in
theorem uDo_first {w : World} {tb pl : Nat} (T : UTab w) (hp : RowA w pl 23 #[.pointer (some ⟨tb, 0, none⟩)]) (hr : TabF w tb) :
 Calls Tryz.prog 73 #[.pointer (some ⟨tb, 0, none⟩), .func (.func 74) #[] #[.pointer (some ⟨pl, 0, none⟩)]] w fun e w' => e = .returned (.tuple #[]) ∧ ∃ mb, w.heap.size ≤ mb ∧ RowA w' tb 95 (tabV 1 (some mb)) ∧ MapU w' mb stdU ∧ w.grownBy w' (some tb) := by
 have hr0 : RowA w tb 95 #[.int .u32 0, .int .i32 0, .int .u32 0, .map none] := hr
 have hl := run_call_load (P := Tryz.prog) Tryz.func140 (by kernel_rfl) (by kernel_rfl) (by kernel_rfl) .u32 (by kernel_rfl) (w := w) (a := ⟨tb, 0, none⟩) (x := 0) (hr0.cell rfl)
 have hnot : ∀ (x : Bool) (w : World), (Op.unary .not (.bool x)).run Tryz.prog w = .ok (.bool (!x)) w := fun _ _ => rfl
 have HR := Lib.hid hr
 have HP := Lib.hid hp
 have HT := Lib.hid T
 clear hr hr0 hp T
 go_enter Tryz.func73, Tryz.ntmps73
 go_wp2_with (first | (go_at_call 110; go_in) | (go_at_call 111; refine (uSlow_c HT.out HP.out HR.out).mono ?_; rintro e w2 ⟨rfl, mb, hmb, hr2, hM, hg2⟩))
 go_end0
 exact ⟨rfl, mb, hmb, hr2, hM, hg2⟩
set_option maxRecDepth 100000 in
theorem uDo_done {w : World} {tb : Nat} {m : Option Nat} (fv : Value) (hr : RowA w tb 95 (tabV 1 m)) :
 Calls Tryz.prog 73 #[.pointer (some ⟨tb, 0, none⟩), fv] w fun e w' => e = .returned (.tuple #[]) ∧ w' = w := by
 have hl := run_call_load (P := Tryz.prog) Tryz.func140 (by kernel_rfl) (by kernel_rfl) (by kernel_rfl) .u32 (by kernel_rfl) (w := w) (a := ⟨tb, 0, none⟩) (x := 1) (hr.cell rfl)
 have hnot : ∀ (x : Bool) (w : World), (Op.unary .not (.bool x)).run Tryz.prog w = .ok (.bool (!x)) w := fun _ _ => rfl
 go_enter Tryz.func73, Tryz.ntmps73
 go_wp2
 go_end0
 exact ⟨rfl, rfl⟩
set_option maxHeartbeats 4000000 in
set_option maxRecDepth 100000 in
theorem uKnown_first {w : World} {tb : Nat} (T : UTab w) (hr : TabF w tb) :
 Calls Tryz.prog 42 #[.pointer (some ⟨tb, 0, none⟩)] w fun e w' => ∃ mb, e = .returned (.map (some mb)) ∧ w.heap.size ≤ mb ∧ RowA w' tb 95 (tabV 1 (some mb)) ∧ MapU w' mb stdU ∧ w.grownBy w' (some tb) := by
 have hmf : ∀ (fn : Fn) (first cap : Array Value) (w : World), (Instr.makeFunc fn first cap).run Tryz.prog w = .ok (.func fn first cap) w := fun _ _ _ _ => rfl
 have bn := below_new w (.cells #[.pointer (some ⟨tb, 0, none⟩)] 23)
 have hp := rowA_new w 23 #[.pointer (some ⟨tb, 0, none⟩)]
 have HR := Lib.hid (RowA.below hr bn)
 have HT := Lib.hid (T.below bn)
 have HP := Lib.hid hp
 have hne : tb ≠ w.heap.size := fun e => by have := RowA.lt hr; omega
 have HG := Lib.hid (grown_of bn (some tb))
 have hlt : Hid (w.heap.size ≤ (w.alloc (.cells #[.pointer (some ⟨tb, 0, none⟩)] 23)).heap.size) := by show _ ≤ _; simp
 clear hr T hp bn
 go_enter Tryz.func42, Tryz.ntmps42
 go_wp2_with fail
 generalize w.alloc (.cells #[.pointer (some ⟨tb, 0, none⟩)] 23) = w1 at *
 refine (uDo_first HT.out HP.out HR.out).mono ?_
 rintro e w2 ⟨rfl, mb, hmb, hr2, hM, hg2⟩
 have hp2 : RowA w2 w.heap.size 23 #[.pointer (some ⟨tb, 0, none⟩)] := (hg2.block _ (RowA.lt HP.out) (fun e => hne (by injection e with e; exact e.symm))).trans HP.out
 have cp := hp2.cell (k := 0) (v := .pointer (some ⟨tb, 0, none⟩)) rfl
 have cm := hr2.cell (k := 3) (v := .map (some mb)) rfl
 have h1 := Lib.hid hr2
 have h2 := Lib.hid hM
 have h3 := Lib.hid (grown_trans HG.out hg2)
 have h4 : Hid (w.heap.size ≤ mb) := Nat.le_trans hlt.out hmb
 clear hr2 hp2 hM hg2 hmb HR HT HP HG hlt
 go_wp2
 go_ret
 exact ⟨mb, rfl, h4.out, h1.out, h2.out, h3.out⟩
set_option maxHeartbeats 4000000 in
set_option maxRecDepth 100000 in
theorem uKnown_done {w : World} {tb mb : Nat} (hr : RowA w tb 95 (tabV 1 (some mb))) :
 Calls Tryz.prog 42 #[.pointer (some ⟨tb, 0, none⟩)] w fun e w' => e = .returned (.map (some mb)) ∧ Below w.heap.size w w' := by
 have hmf : ∀ (fn : Fn) (first cap : Array Value) (w : World), (Instr.makeFunc fn first cap).run Tryz.prog w = .ok (.func fn first cap) w := fun _ _ _ _ => rfl
 have bn := below_new w (.cells #[.pointer (some ⟨tb, 0, none⟩)] 23)
 have hp := rowA_new w 23 #[.pointer (some ⟨tb, 0, none⟩)]
 have hr1 := hr.below bn
 have HR := Lib.hid hr1
 have cp := hp.cell (k := 0) (v := .pointer (some ⟨tb, 0, none⟩)) rfl
 have cm := hr1.cell (k := 3) (v := .map (some mb)) rfl
 have HB := Lib.hid bn
 clear hr hr1 hp bn
 go_enter Tryz.func42, Tryz.ntmps42
 go_wp2_with (go_at_call 73; refine (uDo_done _ HR.out).mono ?_; rintro e w2 ⟨rfl, rfl⟩)
 go_ret
 exact ⟨rfl, HB.out⟩
theorem uKnown_c {w : World} {B tb : Nat} {M : Tb} (T : UTab w) (hs : TabS w B tb M) (hB : B ≤ w.heap.size) :
 Calls Tryz.prog 42 #[.pointer (some ⟨tb, 0, none⟩)] w fun e w' => ∃ mb, e = .returned (.map (some mb)) ∧ TabM w' B tb mb M ∧ Kp tb B w w' := by
 rcases hs with ⟨hf, hb, rfl⟩ | ⟨mb, hr, hb, hm, hM⟩
 · refine (uKnown_first T hf).mono ?_
   rintro e w' ⟨mb, e1, e2, e3, e4, e5⟩
   refine ⟨mb, e1, ⟨e3, hb, Nat.le_trans hB e2, e4⟩, ⟨(Below.refl _ _).grown e5 hB (fun k hk => by cases hk; exact hb), fun g V S f eg hg => ?_⟩, fun _ hn => absurd hf hn⟩
   have hne : g ≠ tb := fun e => hg e hf
   have hlt : g < w.heap.size := (Array.getElem?_eq_some_iff.1 eg).1
   exact (e5.block g hlt (fun e => hne (by injection e))).trans eg
 · refine (uKnown_done hr).mono ?_
   rintro e w' ⟨e1, e2⟩
   exact ⟨mb, e1, ⟨hr.below e2, hb, hm, hM.below e2⟩, Kp.of e2 hB⟩
end Go.Proofs.YtohokfbohdoijaaGreatDoor

/- What the methods Has, Of, Define of a table of units answer, as contracts over memory. Conditions: a name of at most a million bytes; the table of prefixes reads as it is laid. -/
namespace Go.Proofs.YtohokfbohdoijaaGreatDoor
open Go.RowKit Limb
set_option linter.unusedVariables false
theorem TabM.row {w : World} {B tb mb : Nat} {M : Tb} (h : TabM w B tb mb M) : RowA w tb 95 (tabV 1 (some mb)) := h.1
theorem TabM.map {w : World} {B tb mb : Nat} {M : Tb} (h : TabM w B tb mb M) : MapU w mb M := h.2.2.2
/-! ### a block without limbs is filled -/
theorem UV.fill {w : World} {g : Nat} {T : TypeId} {V0 V v : Array Value} {o : Option Rat} {xs : List Int} (h : UV w v o xs) (r : RowA w g T V0) (hv : ∀ v ∈ V0, ∀ x, v ≠ .int .u32 x) : UV (w.setRow g V) v o xs := by
 obtain ⟨A, n, c, C, m, d, e, hq, hx⟩ := h
 exact ⟨A, n, c, C, m, d, e, hq.fillU r hv, hx⟩
theorem MapU.fill {w : World} {g : Nat} {T : TypeId} {V0 V : Array Value} {b : Nat} {M : Tb} (h : MapU w b M) (r : RowA w g T V0) (hv : ∀ v ∈ V0, ∀ x, v ≠ .int .u32 x) : MapU (w.setRow g V) b M := by
 obtain ⟨D, h1, h2, h3, h4⟩ := h
 have hb : b ≠ g := by
  rintro rfl
  obtain ⟨es, c, hb, _⟩ := h1
  unfold RowA at r
  rw [hb] at r; cases r
 refine ⟨D, ownsMap_of_eq h1 (setRow_other w g b V hb), h2, fun k hk => ⟨(h3 k hk).1, fun u hu => ?_⟩, h4⟩
 obtain ⟨a, v, e, hv2⟩ := (h3 k hk).2 u hu
 exact ⟨a, v, e, hv2.fill r hv⟩
theorem TabM.fill {w : World} {g : Nat} {T : TypeId} {V0 V : Array Value} {B tb mb : Nat} {M : Tb} (h : TabM w B tb mb M) (r : RowA w g T V0) (hv : ∀ v ∈ V0, ∀ x, v ≠ .int .u32 x) (hne : g ≠ tb) : TabM (w.setRow g V) B tb mb M :=
 ⟨h.1.farRow hne, h.2.1, h.2.2.1, h.2.2.2.fill r hv⟩
theorem Kw.fill {tb B : Nat} {w w' : World} (h : Kw tb B w w') {g : Nat} (hg : w.heap.size ≤ g) (hB : B ≤ g) (V : Array Value) : Kw tb B w (w'.setRow g V) := by
 refine ⟨below_fillRow h.bel hB V, fun k S T f e he => ?_⟩
 have hlt : k < w.heap.size := (Array.getElem?_eq_some_iff.1 e).1
 rw [setRow_other w' g k V (by omega)]
 exact h.stay k S T f e he
theorem Kp.fill {tb B : Nat} {w w' : World} (h : Kp tb B w w') {g : Nat} (hg : w.heap.size ≤ g) (hB : B ≤ g) (V : Array Value) : Kp tb B w (w'.setRow g V) :=
 ⟨h.toKw.fill hg hB V, fun hl hn => below_fillRow (h.made hl hn) hg V⟩
section
variable {w : World} {B tb : Nat} {M : Tb}
set_option maxHeartbeats 4000000 in
set_option maxRecDepth 100000 in
theorem uHas_c (T : UTab w) (hs : TabS w B tb M) (hB : B ≤ w.heap.size) (s : ByteArray) (hz : s.size ≤ 1000000) :
 Calls Tryz.prog 17 #[.pointer (some ⟨tb, 0, none⟩), .string s] w fun e w' => e = .returned (.bool (M.lookup (bytesOf s)).isSome) ∧ (∃ mb, TabM w' B tb mb M) ∧ Kp tb B w w' := by
 have HT := Lib.hid T
 have HS := Lib.hid hs
 have HB := Lib.hid hB
 clear T hs hB
 go_enter Tryz.func17, Tryz.ntmps17
 go_wp2_with fail
 refine (uKnown_c HT.out HS.out HB.out).mono ?_
 rintro e w2 ⟨mb, rfl, hM, hk⟩
 obtain ⟨v, hrun, hv⟩ := hM.2.2.2.look (.string s) (bytesOf s) (bytes_bytesOf s) (key_str hz)
 have HU := Lib.hid (fits10 (UV.size hv).1 (UV.size hv).2)
 have bn := below_new w2 (.cells v 37)
 have HK := Lib.hid (hk.trans (Kp.of bn (Nat.le_trans HB.out hk.size)))
 have HM := Lib.hid (hM.below bn)
 clear hM hk hv bn
 go_wp2_with (refine wpList_storeNew (by rfl) _ _ _ (by rfl) _ _ _ (by rfl) (by rfl) (by assumption) ?_)
 go_ret
 exact ⟨rfl, ⟨mb, HM.out⟩, HK.out⟩
set_option maxHeartbeats 4000000 in
set_option maxRecDepth 100000 in
theorem uOfN_c (T : UTab w) (hs : TabS w B tb M) (hB : B ≤ w.heap.size) (s : ByteArray) (hz : s.size ≤ 1000000) :
 Calls Tryz.prog 15 #[.pointer (some ⟨tb, 0, none⟩), .string s] w fun e w' => ∃ V, e = .returned (.tuple #[.agg V, .bool (M.lookup (bytesOf s)).isSome]) ∧ UO w' V (M.lookup (bytesOf s)) ∧ (∃ mb, TabM w' B tb mb M) ∧ Kp tb B w w' := by
 have bn := below_new w (.cells z10 37)
 have h_rz := rowA_new w 37 z10
 have HT := Lib.hid (T.below bn)
 have HS := Lib.hid (hs.below bn)
 have HB : Hid (B ≤ (w.alloc (.cells z10 37)).heap.size) := by show _ ≤ _; rw [World.size_alloc]; omega
 have HK0 := Lib.hid (Kp.of (tb := tb) bn hB)
 have hne : tb ≠ w.heap.size := by have := hs.lt; omega
 clear T hs bn
 go_enter Tryz.func15, Tryz.ntmps15
 go_wp2_with fail
 generalize w.alloc (.cells z10 37) = w1 at *
 obtain ⟨qz, eq⟩ : ∃ g, g = w.heap.size := ⟨_, rfl⟩
 rw [← eq] at h_rz ⊢ hne
 have hqB : Hid (B ≤ qz) := by show _ ≤ _; omega
 have hqw : Hid (w.heap.size ≤ qz) := by show _ ≤ _; omega
 clear eq
 refine (uKnown_c HT.out HS.out HB.out).mono ?_
 rintro e w2 ⟨mb, rfl, hM, hk⟩
 obtain ⟨v, hrun, hv⟩ := hM.2.2.2.look (.string s) (bytesOf s) (bytes_bytesOf s) (key_str hz)
 have HU := Lib.hid (fits10 (UV.size hv).1 (UV.size hv).2)
 have bn := below_new w2 (.cells v 37)
 have hk1 := hk
 replace hk := HK0.out.trans hk
 have HK := Lib.hid (hk.trans (Kp.of bn (Nat.le_trans hB hk.size)))
 have HM := Lib.hid (hM.below bn)
 have hv2 := Lib.hid (UO.below hv bn)
 have h_rx := rowA_new w2 37 v
 have HI := Lib.hid h_rx.inV
 have HMu := Lib.hid (many10 (UV.size hv).1)
 have h_rz := (hk1.row h_rz (Ne.symm hne)).below bn
 clear hM hk hk1 hv bn HS HT h_rx
 go_wp2_with (first | (refine wpList_loadV (by rfl) _ _ (by rfl) _ _ (by rfl) _ (by assumption) (by assumption) ?_) | (refine wpList_storeNew (by rfl) _ _ _ (by rfl) _ _ _ (by rfl) (by rfl) (by assumption) ?_))
 clear HI hrun HU HMu
 generalize w2.alloc (.cells v 37) = w3 at *
 refine (uClone_c hv2.out).mono ?_
 rintro e w4 ⟨V, rfl, hV, bn⟩
 have HU := Lib.hid (fits10 (UV.size hV).1 (UV.size hV).2)
 replace h_rz := h_rz.below bn
 have HR := Lib.hid (h_rz.fill (V' := V))
 have hV2 := Lib.hid (hV.fill (V := V) h_rz z10_limb)
 have HM2 := Lib.hid ((HM.out.below bn).fill (V := V) h_rz z10_limb (Ne.symm hne))
 have HK2 := Lib.hid ((HK.out.trans (Kp.of bn (Nat.le_trans hB HK.out.size))).fill hqw.out hqB.out V)
 have HZ := Lib.hid h_rz
 have hsz : Hid ((Tryz.prog.info? 37).map (·.size) = some V.size) := by show _ = _; rw [(UV.size hV).1]; exact size10
 clear hV h_rz bn HM HK hv2
 go_wp2_with (refine wpList_storeV (by rfl) _ _ _ (by rfl) _ (by rfl) _ (by rfl) _ _ (by assumption) (by assumption) ?_)
 refine bodyPost_ret (results_mixed rfl _ _ _ 37 V (0, 0) _ (.bool (M.lookup (bytesOf s)).isSome) rfl rfl HR.out Tryz.underlying37 rfl hsz.out) rfl ?_
 exact ⟨V, rfl, hV2.out, ⟨mb, HM2.out⟩, HK2.out⟩
end
end Go.Proofs.YtohokfbohdoijaaGreatDoor

/- What the reader of a unit's text does byte by byte: take, skipBlanks, noText, name, digits, exponent, as contracts over memory. Condition: a text of at most 200 bytes. -/
namespace Go.Proofs.YtohokfbohdoijaaGreatDoor
open Go.RowKit Limb
set_option linter.unusedVariables false
def rdV (mb : Nat) (s : ByteArray) (i : Int) (L : List Value) : Array Value := (.map (some mb) :: .string s :: .int .i64 i :: L).toArray
def Rd (w : World) (rb mb : Nat) (s : ByteArray) (i : Nat) (L : List Value) : Prop := RowA w rb 107 (rdV mb s (i : Int) L)
section
variable {w w' : World} {rb mb i : Nat} {s : ByteArray} {L : List Value}
theorem Rd.c0 (h : Rd w rb mb s i L) : w.cell? ⟨rb, 0, none⟩ = some (.map (some mb)) := RowA.cell h rfl
theorem Rd.c1 (h : Rd w rb mb s i L) : w.cell? ⟨rb, 1, none⟩ = some (.string s) := RowA.cell h rfl
theorem Rd.c2 (h : Rd w rb mb s i L) : w.cell? ⟨rb, 2, none⟩ = some (.int .i64 (i : Int)) := RowA.cell h rfl
theorem Rd.free (h : Rd w rb mb s i L) (k : Nat) : w.frozen? ⟨rb, k, none⟩ = false := RowA.free h k
theorem Rd.at (h : Rd w rb mb s i L) (j : Nat) (v : Int) (e : v = j) : Rd (w.setCell ⟨rb, 2, none⟩ (.int .i64 v)) rb mb s j L := by
 subst e
 have := RowA.set h 2 (.int .i64 (j : Int))
 have e : (rdV mb s (i : Int) L).setIfInBounds 2 (.int .i64 (j : Int)) = rdV mb s (j : Int) L := by simp [rdV]
 rwa [e] at this
theorem Rd.below (h : Rd w rb mb s i L) (hb : Below w.heap.size w w') : Rd w' rb mb s i L := RowA.below h hb
theorem Rd.lt (h : Rd w rb mb s i L) : rb < w.heap.size := RowA.lt h
set_option maxHeartbeats 4000000 in
set_option maxRecDepth 100000 in
theorem tTake_yes (h : Rd w rb mb s i L) (hz : s.size ≤ 200) (hlt : i < s.size) (c : Nat) (hc : lim (bytesOf s) i = c) :
 Calls Tryz.prog 79 #[.pointer (some ⟨rb, 0, none⟩), .int .u8 (c : Int)] w fun e w' => e = .returned (.bool true) ∧ Rd w' rb mb s (i + 1) L ∧ w.grownBy w' (some rb) := by
 have hd : (s[i]'hlt).toNat = c := by rw [← hc]; exact byte_at s i hlt
 have hne : ((c : Int) != (c : Int)) = false := by simp
 have c1 := h.c1
 have c2 := h.c2
 have H := Lib.hid h
 have e1 : ((i : Int) == (s.size : Int)) = false := by rw [beq_eq_false_iff_ne]; omega
 clear h hc
 go_enter Tryz.func79, Tryz.ntmps79
 go_wp2_with fail
 go_quiet (fail)
 have bn := below_drewN (Below.refl w.heap.size w) nq
 have H2 := Lib.hid (H.out.below bn)
 have HG := Lib.hid (grown_of bn (some rb))
 generalize w.drewN nq = w1 at *
 have c1 := H2.out.c1
 have c2 := H2.out.c2
 have f2 := H2.out.free 2
 have H3 := Lib.hid (H2.out.at (i + 1) ((i : Int) + 1) (by omega))
 have HG2 := Lib.hid (grown_trans HG.out (grown_cell w1 rb 2 (.int .i64 ((i : Int) + 1))))
 clear bn
 go_wp2
 go_ret
 exact ⟨rfl, H3.out, HG2.out⟩
set_option maxHeartbeats 4000000 in
set_option maxRecDepth 100000 in
theorem tTake_no (h : Rd w rb mb s i L) (hz : s.size ≤ 200) (hi : i ≤ s.size) (c : Nat) (hc : i < s.size → lim (bytesOf s) i ≠ c) :
 Calls Tryz.prog 79 #[.pointer (some ⟨rb, 0, none⟩), .int .u8 (c : Int)] w fun e w' => e = .returned (.bool false) ∧ Below w.heap.size w w' := by
 have c1 := h.c1
 have c2 := h.c2
 clear h
 by_cases hlt : i < s.size
 · obtain ⟨d, hd⟩ : ∃ d, (s[i]'hlt).toNat = d := ⟨_, rfl⟩
   have hne : ((d : Int) != (c : Int)) = true := by
    have := hc hlt
    rw [← byte_at s i hlt, hd] at this
    simp; omega
   have e1 : ((i : Int) == (s.size : Int)) = false := by rw [beq_eq_false_iff_ne]; omega
   clear hc
   go_enter Tryz.func79, Tryz.ntmps79
   go_wp2_with fail
   go_quiet (fail)
   have bn := Lib.hid (below_drewN (Below.refl w.heap.size w) nq)
   generalize w.drewN nq = w1 at *
   go_wp2
   go_ret
   exact ⟨rfl, bn.out⟩
 · obtain rfl : i = s.size := by omega
   clear hc hlt hi
   go_enter Tryz.func79, Tryz.ntmps79
   go_wp2_with fail
   go_quiet (fail)
   have bn := Lib.hid (below_drewN (Below.refl w.heap.size w) nq)
   generalize w.drewN nq = w1 at *
   go_wp2
   go_ret
   exact ⟨rfl, bn.out⟩
def posOf (w : World) (rb : Nat) : Nat := match w.cell? ⟨rb, 2, none⟩ with
 | some v => (intOf v).toNat
 | none => 0
theorem posOf_is (h : Rd w rb mb s i L) : posOf w rb = i := by unfold posOf; rw [h.c2]; simp [intOf]
set_option maxHeartbeats 4000000 in
set_option maxRecDepth 100000 in
theorem tSkip_c (h : Rd w rb mb s i L) (hz : s.size ≤ 200) (hi : i ≤ s.size) :
 Calls Tryz.prog 78 #[.pointer (some ⟨rb, 0, none⟩)] w fun e w' => e = .returned (.tuple #[]) ∧ ∃ j, i ≤ j ∧ j ≤ s.size ∧ (bytesOf s).drop j = skipR ((bytesOf s).drop i) ∧ Rd w' rb mb s j L ∧ w.grownBy w' (some rb) := by
 have HL := Lib.hid (length_bytesOf s)
 have HS0 := Lib.hid h
 have HI := Lib.hid hi
 clear h hi
 go_enter Tryz.func78, Tryz.ntmps78
 go_wp2_with fail
 go_loopw [3] (fun pv wr => ∃ k : Nat, Hid (i ≤ k ∧ k ≤ s.size ∧ skipR ((bytesOf s).drop k) = skipR ((bytesOf s).drop i)) ∧ Hid (Rd wr rb mb s k L) ∧ Hid (w.grownBy wr (some rb))) (fun _ wr => s.size - posOf wr rb)
 · exact ⟨i, ⟨Nat.le_refl _, HI.out, rfl⟩, HS0.out, grown_of (Below.refl _ _) _⟩
 · obtain ⟨k, HK, HR, HG⟩ := hrel
   clear HS0
   by_cases hb : k < s.size ∧ lim (bytesOf s) k = 32
   · have HB := Lib.hid hb
     clear hb
     go_wp2_with (go_at_call 79; refine (tTake_yes HR.out hz HB.out.1 32 HB.out.2).mono ?_; rintro e w2 ⟨rfl, hr, hg⟩)
     have := HK.out
     refine ⟨⟨k + 1, ⟨by omega, by have := HB.out.1; omega, ?_⟩, hr, grown_trans HG.out hg⟩, ?_⟩
     · rw [← HK.out.2.2, skip_at (by rw [HL.out]; exact HB.out.1) HB.out.2]
     · rw [posOf_is hr, posOf_is HR.out]; have := HB.out.1; omega
   · have HB : Hid (k < s.size → lim (bytesOf s) k ≠ 32) := fun h1 h2 => hb ⟨h1, h2⟩
     clear hb
     go_wp2_with (go_at_call 79; refine (tTake_no HR.out hz HK.out.2.1 32 HB.out).mono ?_; rintro e w2 ⟨rfl, hg⟩)
     go_end0
     refine ⟨rfl, k, HK.out.1, HK.out.2.1, ?_, HR.out.below hg, grown_trans HG.out (grown_of hg _)⟩
     rw [← HK.out.2.2, skip_stop (by rw [HL.out]; exact HB.out)]
abbrev fltV (e at0 : Int) : Value := .agg #[.int .i64 e, .int .i64 at0]
abbrev fltC (e at0 : Int) : Array Value := #[.int .i64 e, .int .i64 at0]
theorem sizeF : (Tryz.prog.info? 56).map (·.size) = some 2 := by kernel_rfl
theorem manyF (e a : Int) : Many Tryz.prog 56 (fltC e a).size := ⟨sizeF, _, Tryz.underlying56, rfl⟩
theorem fitsF (e a : Int) : Many Tryz.prog 56 (fltC e a).size ∧ (fltC 0 0).size = (fltC e a).size ∧ ∀ v ∈ fltC e a, v.oneCell' = true := ⟨manyF e a, rfl, by simp [Value.oneCell']⟩
set_option maxHeartbeats 4000000 in
set_option maxRecDepth 100000 in
theorem tNoText_c (h : Rd w rb mb s i L) :
 Calls Tryz.prog 80 #[.pointer (some ⟨rb, 0, none⟩)] w fun e w' => e = .returned (fltV 12 i) ∧ Below w.heap.size w w' := by
 have c2 := (h.below (below_new w (.cells (fltC 0 0) 56))).c2
 have HB := Lib.hid (below_new w (.cells (fltC 12 i) 56))
 have HR := Lib.hid (rowA_new w 56 (fltC 12 i))
 have HU := Lib.hid (fitsF 12 i)
 clear h
 go_enter Tryz.func80, Tryz.ntmps80
 go_wp2_with (refine wpList_storeNew (by rfl) _ _ _ (by rfl) _ _ _ (by rfl) (by rfl) (by assumption) ?_)
 refine bodyPost_ret (results_cell_row rfl _ _ _ 56 (fltC 12 i) (0, 0) _ rfl HR.out Tryz.underlying56 rfl sizeF) rfl ?_
 exact ⟨rfl, HB.out⟩
end
end Go.Proofs.YtohokfbohdoijaaGreatDoor

/- What the reader of a unit's text does: name, digits, exponent, as contracts over memory. Condition: a text of at most 200 bytes. -/
namespace Go.Proofs.YtohokfbohdoijaaGreatDoor
open Go.RowKit Limb
set_option linter.unusedVariables false
theorem results_mixed2 {P : Program} {fn : Func} {p q : Tmp} {ty : TypeId} (h : fn.results = #[.tmp q, .cell p ty]) (tmps : Array Value) (w : World) (g : Nat) (t : TypeId) (cs : Array Value) (fr : Nat × Nat) (d : TypeDesc) (v : Value)
 (hp : tmps.getD p undef = .pointer (some ⟨g, 0, none⟩)) (hq : tmps.getD q undef = v) (hg : w.heap[g]? = some (.cells cs t fr))
 (hu : P.underlying ty = some d) (hd : (match d with | .struct _ | .array _ _ => true | _ => false) = true) (hi : (P.info? ty).map (·.size) = some cs.size) :
 (results fn tmps).run P w = .ok (.tuple #[v, .agg cs]) w := by
 have hp' : tmps[p]?.getD undef = .pointer (some ⟨g, 0, none⟩) := by simpa using hp
 have hq' : tmps[q]?.getD undef = v := by simpa using hq
 simp [results, h, hp', hq', asAddr, run_loadVar_row w g t ty cs fr d hg hu hd hi]
theorem uNameN_q (s : ByteArray) (hs : s.size ≤ 9223372036854775807) (n : Nat) (hn : nameN (bytesOf s) = n) (w : World) : Calls Tryz.prog 69 #[.string s] w fun e w' => e = .returned (.int .i64 (n : Int)) ∧ w' = w := by
 subst hn; exact uNameN_c s hs w
theorem bytes_cut2 (s : ByteArray) (i j : Nat) : bytesOf (s.extract i j) = ((bytesOf s).drop i).take (j - i) := by
 unfold bytesOf
 rw [ByteArray.data_extract, Array.toList_extract, List.extract_eq_take_drop, List.map_take, List.map_drop]
theorem cut_size2 (D : ByteArray) (i j : Nat) (h : i ≤ j) (hj : j ≤ D.size) : (D.extract i j).size = j - i := by
 rw [← length_bytesOf, bytes_cut2, List.length_take, List.length_drop, length_bytesOf]; omega
theorem grown_fill {w w' : World} {rb g : Nat} (h : w.grownBy w' (some rb)) (hg : w.heap.size ≤ g) (V : Array Value) : w.grownBy (w'.setRow g V) (some rb) :=
 ⟨h.os, h.tape, h.output, by rw [setRow_size]; exact h.size, fun k hk hr => (setRow_other w' g k V (by omega)).trans (h.block k hk hr)⟩
section
variable {w w' : World} {rb mb i : Nat} {s : ByteArray} {L : List Value}
set_option maxHeartbeats 4000000 in
set_option maxRecDepth 100000 in
/-- A name that is none, or too long. -/
theorem tName_bad (h : Rd w rb mb s i L) (hz : s.size ≤ 200) (hi : i ≤ s.size) (n : Nat) (hn : nameN ((bytesOf s).drop i) = n) (hb : n = 0 ∨ 16 < n) :
 Calls Tryz.prog 114 #[.pointer (some ⟨rb, 0, none⟩)] w fun e w' => e = .returned (.tuple #[.string ⟨#[]⟩, fltV 12 ((i + min n 16 : Nat) : Int)]) ∧ w.grownBy w' (some rb) := by
 have hne : rb ≠ w.heap.size := by have := h.lt; omega
 have bn := below_new w (.cells (fltC 0 0) 56)
 have h_rz := rowA_new w 56 (fltC 0 0)
 have h1 := h.below bn
 have c1 := h1.c1
 have c2 := h1.c2
 have H := Lib.hid h1
 have HG := Lib.hid (grown_of bn (some rb))
 have hcs := cut_size2 s i s.size hi (Nat.le_refl _)
 have hcb : Hid (bytesOf (s.extract i s.size) = (bytesOf s).drop i) := by show _ = _; rw [bytes_cut2, List.take_of_length_le (by rw [List.length_drop, length_bytesOf]; omega)]
 have hnl : n ≤ 200 := by have := nameN_le ((bytesOf s).drop i); rw [hn, List.length_drop, length_bytesOf] at this; omega
 have HN := Lib.hid hn
 have HW := Lib.hid hb
 have hi2 : i ≤ 200 := by omega
 have HQ : Hid (∀ W, Calls Tryz.prog 69 #[.string (s.extract i s.size)] W fun e w' => e = .returned (.int .i64 (n : Int)) ∧ w' = W) := fun W => uNameN_q _ (by rw [hcs]; omega) n (by rw [hcb.out]; exact hn) W
 clear h bn h1 hn hb hcs hcb
 go_enter Tryz.func114, Tryz.ntmps114
 go_wp2_with fail
 generalize w.alloc (.cells (fltC 0 0) 56) = w1 at *
 obtain ⟨qz, eq⟩ : ∃ g, g = w.heap.size := ⟨_, rfl⟩
 rw [← eq] at h_rz hne ⊢
 have hqz : Hid (w.heap.size ≤ qz) := by show _ ≤ _; omega
 clear eq
 go_quiet ((go_at_call 69; exact Calls.quiet_of_same (HQ.out _)))
 have bn := below_drewN (Below.refl w1.heap.size w1) nq
 have H2 := Lib.hid (H.out.below bn)
 have HZ := Lib.hid (h_rz.below bn)
 have HG2 := Lib.hid (grown_trans HG.out (grown_of bn (some rb)))
 generalize w1.drewN nq = w2 at *
 have c2 := H2.out.c2
 have f2 := H2.out.free 2
 clear bn h_rz H HG HQ c1
 rcases HW.out with rfl | h16
 · clear hnl
   have hmm : min (0 : Int) 16 = 0 := by decide
   have k1 := Lib.hid (H2.out.at (i + 0) ((i : Int)) (by omega))
   have k2 := Lib.hid (HZ.out.far hne 2 (.int .i64 ((i : Int))))
   have k3 := Lib.hid (grown_trans HG2.out (grown_cell w2 rb 2 (.int .i64 ((i : Int)))))
   clear H2 HZ HG2
   go_wp2_with fail
   generalize w2.setCell ⟨rb, 2, none⟩ (.int .i64 ((i : Int))) = w3 at *
   refine (tNoText_c k1.out).mono ?_
   rintro e w4 ⟨rfl, bn⟩
   have HZ := Lib.hid (k2.out.below bn)
   have HU := Lib.hid (fitsF 12 ((i + 0 : Nat) : Int))
   have HR := Lib.hid (RowA.fill (k2.out.below bn) (V' := fltC 12 ((i + 0 : Nat) : Int)))
   have HE := Lib.hid (grown_fill (grown_trans k3.out (grown_of bn _)) hqz.out (fltC 12 ((i + 0 : Nat) : Int)))
   clear bn k1 k2 k3
   go_wp2_with (refine wpList_storeV (by rfl) _ _ _ (by rfl) _ (by rfl) _ (by rfl) _ _ (by assumption) (by assumption) ?_)
   refine bodyPost_ret (results_mixed2 rfl _ _ _ 56 (fltC 12 ((i + 0 : Nat) : Int)) (0, 0) _ (.string ⟨#[]⟩) rfl rfl HR.out Tryz.underlying56 rfl sizeF) rfl ?_
   exact ⟨rfl, HE.out⟩
 · have h17 : (16 : Int) < (n : Int) := by omega
   have hm16 : Hid (min n 16 = 16) := by show _ = _; omega
   have hmm : min (n : Int) 16 = 16 := by omega
   clear hnl
   have k1 := Lib.hid (H2.out.at (i + 16) ((i : Int) + 16) (by omega))
   have k2 := Lib.hid (HZ.out.far hne 2 (.int .i64 ((i : Int) + 16)))
   have k3 := Lib.hid (grown_trans HG2.out (grown_cell w2 rb 2 (.int .i64 ((i : Int) + 16))))
   clear H2 HZ HG2
   go_wp2_with fail
   generalize w2.setCell ⟨rb, 2, none⟩ (.int .i64 ((i : Int) + 16)) = w3 at *
   refine (tNoText_c k1.out).mono ?_
   rintro e w4 ⟨rfl, bn⟩
   have HZ := Lib.hid (k2.out.below bn)
   have HU := Lib.hid (fitsF 12 ((i + 16 : Nat) : Int))
   have HR := Lib.hid (RowA.fill (k2.out.below bn) (V' := fltC 12 ((i + 16 : Nat) : Int)))
   have HE := Lib.hid (grown_fill (grown_trans k3.out (grown_of bn _)) hqz.out (fltC 12 ((i + 16 : Nat) : Int)))
   clear bn k1 k2 k3
   go_wp2_with (refine wpList_storeV (by rfl) _ _ _ (by rfl) _ (by rfl) _ (by rfl) _ _ (by assumption) (by assumption) ?_)
   refine bodyPost_ret (results_mixed2 rfl _ _ _ 56 (fltC 12 ((i + 16 : Nat) : Int)) (0, 0) _ (.string ⟨#[]⟩) rfl rfl HR.out Tryz.underlying56 rfl sizeF) rfl ?_
   exact ⟨by rw [hm16.out], HE.out⟩
end
end Go.Proofs.YtohokfbohdoijaaGreatDoor

/- What the reader of a unit's text does: a good name, as a contract over memory. Condition: a text of at most 200 bytes. -/
namespace Go.Proofs.YtohokfbohdoijaaGreatDoor
open Go.RowKit Limb
set_option linter.unusedVariables false
theorem Rd.farF {w : World} {rb mb i g : Nat} {s : ByteArray} {L : List Value} (h : Rd w rb mb s i L) (hne : rb ≠ g) {V : Array Value} : Rd (w.setRow g V) rb mb s i L := RowA.farRow h (Ne.symm hne)
theorem grown_new {w w' : World} {rb g : Nat} (h : w.grownBy w' (some rb)) (hg : w.heap.size ≤ g) (k : Nat) (v : Value) : w.grownBy (w'.setCell ⟨g, k, none⟩ v) (some rb) :=
 ⟨h.os, h.tape, h.output, by simpa using h.size, fun i hi hr => (Below.heap_setCell w' _ v i (by simp; omega)).trans (h.block i hi hr)⟩
section
variable {w w' : World} {rb mb i : Nat} {s : ByteArray} {L : List Value}
set_option maxHeartbeats 4000000 in
set_option maxRecDepth 100000 in
theorem tName_ok (h : Rd w rb mb s i L) (hz : s.size ≤ 200) (hi : i ≤ s.size) (n : Nat) (hn : nameN ((bytesOf s).drop i) = n) (hb : 1 ≤ n ∧ n ≤ 16) :
 Calls Tryz.prog 114 #[.pointer (some ⟨rb, 0, none⟩)] w fun e w' => ∃ T, e = .returned (.tuple #[.string T, fltV 0 0]) ∧ bytesOf T = ((bytesOf s).drop i).take n ∧ Rd w' rb mb s (i + n) L ∧ w.grownBy w' (some rb) := by
 have hnl := nameN_le ((bytesOf s).drop i)
 have HN := Lib.hid hn
 have hcs := cut_size2 s i s.size hi (Nat.le_refl _)
 have hcb : bytesOf (s.extract i s.size) = (bytesOf s).drop i := by rw [bytes_cut2, List.take_of_length_le (by rw [List.length_drop, length_bytesOf]; omega)]
 have hin : Hid (i + n ≤ s.size) := by show _ ≤ _; rw [hn, List.length_drop, length_bytesOf] at hnl; omega
 have hxt : Hid (bytesOf (s.extract i (i + n)) = ((bytesOf s).drop i).take n) := by show _ = _; rw [bytes_cut2]; congr 1; omega
 have HQ : Hid (∀ W, Calls Tryz.prog 69 #[.string (s.extract i s.size)] W fun e w' => e = .returned (.int .i64 (n : Int)) ∧ w' = W) := fun W => uNameN_q _ (by rw [hcs]; omega) n (by rw [hcb]; exact hn) W
 have hi2 : i ≤ 200 := by omega
 have h1n := hb.1
 have h16 : (n : Int) ≤ 16 := by omega
 have hmm : min (n : Int) 16 = (n : Int) := by omega
 have h0n : ((n : Int) == 0) = false := by rw [beq_eq_false_iff_ne]; omega
 clear hn hcs hcb hnl hb
 have hne : rb ≠ w.heap.size := by have := h.lt; omega
 have bn := below_new w (.cells (fltC 0 0) 56)
 have h_rz := rowA_new w 56 (fltC 0 0)
 have h1 := h.below bn
 have H := Lib.hid h1
 have HG := Lib.hid (grown_of bn (some rb))
 have c1 := h1.c1
 have c2 := h1.c2
 clear h1
 clear h bn
 go_enter Tryz.func114, Tryz.ntmps114
 go_wp2_with fail
 generalize w.alloc (.cells (fltC 0 0) 56) = w1 at *
 obtain ⟨qz, eq⟩ : ∃ g, g = w.heap.size := ⟨_, rfl⟩
 rw [← eq] at h_rz hne ⊢
 have hqz : Hid (w.heap.size ≤ qz) := by show _ ≤ _; omega
 clear eq
 go_quiet ((go_at_call 69; exact Calls.quiet_of_same (HQ.out _)))
 have bn := below_drewN (Below.refl w1.heap.size w1) nq
 have H2 := Lib.hid (H.out.below bn)
 have HZ := Lib.hid (h_rz.below bn)
 have HG2 := Lib.hid (grown_trans HG.out (grown_of bn (some rb)))
 generalize w1.drewN nq = w2 at *
 have c2 := H2.out.c2
 have f2 := H2.out.free 2
 clear bn h_rz H HG HQ c1
 have H3 := Lib.hid (H2.out.at (i + n) ((i : Int) + n) (by omega))
 have HZ3 := Lib.hid (HZ.out.far hne 2 (.int .i64 ((i : Int) + n)))
 have HG3 := Lib.hid (grown_trans HG2.out (grown_cell w2 rb 2 (.int .i64 ((i : Int) + n))))
 have hne2 := Lib.hid hne
 clear H2 HZ HG2
 go_wp2_with fail
 generalize w2.setCell ⟨rb, 2, none⟩ (.int .i64 ((i : Int) + n)) = wS at *
 clear hmm h0n hi2 h1n h16
 have c1 := (Rd.below H3.out (Below.refl _ _).drew).c1
 have c2 := (Rd.below H3.out (Below.refl _ _).drew).c2
 have z0 := HZ3.out.cell (k := 0) (v := .int .i64 0) rfl
 have z1 := HZ3.out.cell (k := 1) (v := .int .i64 0) rfl
 have f0 := HZ3.out.free 0
 have f1 := HZ3.out.free 1
 have y0 := HZ3.out.drew.cell (k := 0) (v := .int .i64 0) rfl
 have y1 := HZ3.out.drew.cell (k := 1) (v := .int .i64 0) rfl
 have hA : (0 : Int) ≤ (i : Int) + (n : Int) ∧ (i : Int) + (n : Int) ≤ (s.size : Int) := by have := hin.out; omega
 have hB : (i : Int) ≤ (i : Int) + (n : Int) := by omega
 have hC : ((i : Int) + (n : Int)).toNat = i + n := by omega
 have hE := Lib.hid (show ((i : Int) + (n : Int)) = ((i + n : Nat) : Int) by omega)
 go_region
 have HR : Hid (RowA ((wS.setCell ⟨qz, 0, none⟩ (.int .i64 0)).setCell ⟨qz, 1, none⟩ (.int .i64 0)).drew qz 56 (fltC 0 0)) := (((HZ3.out.set 0 (.int .i64 0)).set 1 (.int .i64 0)).drew :)
 have HF : Hid (Rd ((wS.setCell ⟨qz, 0, none⟩ (.int .i64 0)).setCell ⟨qz, 1, none⟩ (.int .i64 0)).drew rb mb s _ L) := Rd.below (RowA.far (RowA.far H3.out (Ne.symm hne2.out) 0 (.int .i64 0)) (Ne.symm hne2.out) 1 (.int .i64 0)) (Below.refl _ _).drew
 have HE : Hid (w.grownBy ((wS.setCell ⟨qz, 0, none⟩ (.int .i64 0)).setCell ⟨qz, 1, none⟩ (.int .i64 0)).drew (some rb)) := grown_drew (grown_new (grown_new HG3.out hqz.out 0 (.int .i64 0)) hqz.out 1 (.int .i64 0))
 clear c1 c2 z0 z1 f0 f1 y0 y1 hA hB hC hE
 go_wp2_with fail
 refine bodyPost_ret (results_mixed2 rfl _ _ _ 56 (fltC 0 0) (0, 0) _ (.string (s.extract i (i + n))) rfl rfl HR.out Tryz.underlying56 rfl sizeF) rfl ?_
 exact ⟨_, rfl, hxt.out, HF.out, HE.out⟩
end
end Go.Proofs.YtohokfbohdoijaaGreatDoor

/- What the reader of a unit's text does: the digits of an exponent, as a contract over memory. Condition: a text of at most 200 bytes. -/
namespace Go.Proofs.YtohokfbohdoijaaGreatDoor
open Go.RowKit Limb
set_option linter.unusedVariables false
theorem run_st {l : List Nat} {k : Nat} (h : k ≤ litRun l) (hk : k < l.length) (hd : isDig (lim l k) = true) : k + 1 ≤ litRun l := while_step h hk hd
theorem run_sp {l : List Nat} {k : Nat} (h : k ≤ litRun l) (hd : k < l.length → isDig (lim l k) = false) : litRun l = k := while_stop h hd
theorem dec_step {l : List Nat} {k N : Nat} (h : decV (l.take k) = N) (hk : k < l.length) (hd : isDig (lim l k) = true) (hN : N < 10 ^ k) : decV (l.take (k + 1)) = N * 10 + (lim l k - 48) ∧ N * 10 + (lim l k - 48) < 10 ^ (k + 1) := by
 have e : l.take (k + 1) = l.take k ++ [lim l k] := by
  rw [List.take_succ_eq_append_getElem hk]
  simp [lim, List.getD_eq_getElem?_getD, hk]
 refine ⟨by rw [e, decV_snoc, h], ?_⟩
 unfold isDig at hd
 simp only [Bool.and_eq_true, decide_eq_true_eq] at hd
 rw [Nat.pow_succ]
 omega
section
variable {w w' : World} {rb mb i : Nat} {s : ByteArray} {L : List Value}
set_option maxHeartbeats 4000000 in
set_option maxRecDepth 100000 in
theorem tDigits_c (h : Rd w rb mb s i L) (hz : s.size ≤ 200) (hi : i ≤ s.size) (r : Nat) (hr : litRun ((bytesOf s).drop i) = r) :
 Calls Tryz.prog 145 #[.pointer (some ⟨rb, 0, none⟩)] w fun e w' =>
  (r = 0 → e = .returned (.tuple #[.int .i64 0, fltV 12 (i : Int)])) ∧ (3 < r → e = .returned (.tuple #[.int .i64 0, fltV 12 ((i + 3 : Nat) : Int)])) ∧
  (1 ≤ r ∧ r ≤ 3 → e = .returned (.tuple #[.int .i64 (decV (((bytesOf s).drop i).take r) : Nat), fltV 0 0]) ∧ Rd w' rb mb s (i + r) L) ∧ w.grownBy w' (some rb) := by
 have hne : rb ≠ w.heap.size := by have := h.lt; omega
 have bn := below_new w (.cells (fltC 0 0) 56)
 have h_rz := rowA_new w 56 (fltC 0 0)
 have h1 := h.below bn
 have H := Lib.hid h1
 have HG := Lib.hid (grown_of bn (some rb))
 have c2 := h1.c2
 have HL : Hid (((bytesOf s).drop i).length = s.size - i) := by show _ = _; rw [List.length_drop, length_bytesOf]
 have HR := Lib.hid hr
 have HI := Lib.hid hi
 clear h bn h1 hr
 go_enter Tryz.func145, Tryz.ntmps145
 go_wp2_with fail
 generalize w.alloc (.cells (fltC 0 0) 56) = w1 at *
 obtain ⟨qz, eq⟩ : ∃ g, g = w.heap.size := ⟨_, rfl⟩
 rw [← eq] at h_rz hne ⊢
 have hqz : Hid (w.heap.size ≤ qz) := by show _ ≤ _; omega
 have hne2 := Lib.hid hne
 clear eq c2 hi hne
 go_loopw [5] (fun nv wr => ∃ q N : Nat, nv = .int .i64 (N : Int) ∧ Hid (i ≤ q ∧ q ≤ i + 3 ∧ q ≤ s.size) ∧ Hid (N < 10 ^ (q - i)) ∧ Hid (decV (((bytesOf s).drop i).take (q - i)) = N) ∧ Hid (q - i ≤ litRun ((bytesOf s).drop i)) ∧ Hid (Rd wr rb mb s q L) ∧ Hid (RowA wr qz 56 (fltC 0 0)) ∧ Hid (w.grownBy wr (some rb))) (fun _ wr => s.size - posOf wr rb)
 · exact ⟨i, 0, rfl, ⟨Nat.le_refl _, by omega, HI.out⟩, by show _ < _; rw [Nat.sub_self]; decide, by show _ = _; rw [Nat.sub_self]; rfl, by show _ ≤ _; rw [Nat.sub_self]; exact Nat.zero_le _, H.out, h_rz, HG.out⟩
 · obtain ⟨q, N, rfl, HQ, HN, HD, HK, HC, HZ, HG2⟩ := hrel
   clear H h_rz HG
   obtain ⟨hq1, hq2, hq3⟩ := HQ.out
   have HP := Lib.hid (posOf_is HC.out)
   have c1 := HC.out.c1
   have c2 := HC.out.c2
   by_cases hlt : q < s.size
   · obtain ⟨d, hd⟩ : ∃ d, (s[q]'hlt).toNat = d := ⟨_, rfl⟩
     have hdl : Hid (lim ((bytesOf s).drop i) (q - i) = d) := by show _ = _; rw [← hd, byte_at s q hlt]; simp [lim, List.getD_eq_getElem?_getD, List.getElem?_drop]; rw [show i + (q - i) = q by omega]
     by_cases hdig : isDig d = true
     · have hst : Hid (q - i + 1 ≤ litRun ((bytesOf s).drop i)) := run_st HK.out (by rw [HL.out]; omega) (by rw [hdl.out]; exact hdig)
       have hds := dec_step HD.out (by rw [HL.out]; omega) (by rw [hdl.out]; exact hdig) HN.out
       rw [hdl.out] at hds
       have HDS := Lib.hid hds
       have hbd : 48 ≤ d ∧ d ≤ 57 := by unfold isDig at hdig; simpa using hdig
       obtain ⟨hb1, hb2⟩ := hbd
       have HDG := Lib.hid hdig
       clear hdig hdl hds
       go_wp2_with fail
       go_quiet ((go_at_call 107; exact Calls.quiet_of_same (uDigit_c d true HDG.out _)))
       have bn := below_drewN (Below.refl wr.heap.size wr) nq
       have HCq := Lib.hid (HC.out.below bn)
       have HZq := Lib.hid (HZ.out.below bn)
       have HGq := Lib.hid (grown_trans HG2.out (grown_of bn (some rb)))
       generalize hw3 : wr.drewN nq = w3 at *
       clear hw3 bn c1 c2 HC HZ HG2
       have c1 := HCq.out.c1
       have c2 := HCq.out.c2
       have f2 := HCq.out.free 2
       by_cases h3 : q = i + 3
       · have e3 : (((q : Int) - (i : Int)) == 3) = true := by rw [beq_iff_eq]; omega
         have HF : Hid (3 < r) := by show _ < _; rw [← HR.out]; have := hst.out; omega
         have hqe : Hid ((q : Int) = ((i + 3 : Nat) : Int)) := by show _ = _; omega
         clear h3 hst HDS
         go_wp2_with fail
         refine (tNoText_c HCq.out).mono ?_
         rintro e w4 ⟨rfl, bn⟩
         have HZf := Lib.hid (HZq.out.below bn)
         have HGf := Lib.hid (grown_trans HGq.out (grown_of bn _))
         have HU := Lib.hid (fitsF 12 (q : Int))
         have HRf := Lib.hid (RowA.fill HZf.out (V' := fltC 12 (q : Int)))
         have HE := Lib.hid (grown_fill HGf.out hqz.out (fltC 12 (q : Int)))
         clear bn
         go_wp2_with (refine wpList_storeV (by rfl) _ _ _ (by rfl) _ (by rfl) _ (by rfl) _ _ (by assumption) (by assumption) ?_)
         refine bodyPost_ret (results_mixed2 rfl _ _ _ 56 (fltC 12 (q : Int)) (0, 0) _ (.int .i64 0) rfl rfl HRf.out Tryz.underlying56 rfl sizeF) rfl ?_
         refine ⟨fun h => ?_, fun _ => ?_, fun h => ?_, HE.out⟩
         · have := HF.out; omega
         · rw [hqe.out]
         · have := HF.out; omega
       · have e3 : (((q : Int) - (i : Int)) == 3) = false := by rw [beq_eq_false_iff_ne]; omega
         have hN1 : N < 1000 := Nat.lt_of_lt_of_le HN.out (Nat.le_trans (Nat.pow_le_pow_right (by decide) (show q - i ≤ 3 by omega)) (by decide))
         have hw1 : IntKind.u8.wrap ((d : Int) - 48) = (d : Int) - 48 := by rw [IntKind.wrap_u8]; omega
         have hw2 : IntKind.i64.wrap ((d : Int) - 48) = (d : Int) - 48 := by rw [IntKind.wrap_i64]; omega
         go_wp2_with fail
         go_quiet (fail)
         have bn := below_drewN (Below.refl w3.heap.size w3) nq
         have HC5 := Lib.hid (HCq.out.below bn)
         have HZ5 := Lib.hid (HZq.out.below bn)
         have HG5 := Lib.hid (grown_trans HGq.out (grown_of bn (some rb)))
         generalize w3.drewN nq = w5 at *
         clear bn c1 c2 f2 HCq HZq HGq hw1 hw2 e3
         have c2 := HC5.out.c2
         have f2 := HC5.out.free 2
         have HC6 := Lib.hid (HC5.out.at (q + 1) ((q : Int) + 1) (by omega))
         have HZ6 := Lib.hid (HZ5.out.far hne2.out 2 (.int .i64 ((q : Int) + 1)))
         have HG6 := Lib.hid (grown_trans HG5.out (grown_cell w5 rb 2 (.int .i64 ((q : Int) + 1))))
         have HM : Hid (s.size - posOf (w5.setCell ⟨rb, 2, none⟩ (.int .i64 ((q : Int) + 1))) rb < s.size - posOf wr rb) := by
          show _ < _
          rw [posOf_is HC6.out, HP.out]; omega
         go_wp2
         refine ⟨⟨q + 1, N * 10 + (d - 48), ?_, ⟨by omega, by omega, by omega⟩, ?_, ?_, ?_, HC6.out, HZ6.out, HG6.out⟩, HM.out⟩
         · congr 1; omega
         · show _ < _; rw [show q + 1 - i = q - i + 1 by omega]; exact HDS.out.2
         · show _ = _; rw [show q + 1 - i = q - i + 1 by omega]; exact HDS.out.1
         · show _ ≤ _; rw [show q + 1 - i = q - i + 1 by omega]; exact hst.out
     · have hst : Hid (r = q - i) := by show _ = _; rw [← HR.out]; exact run_sp HK.out (fun _ => by rw [hdl.out]; simpa using hdig)
       have HDG : Hid (isDig d = false) := by show _ = _; simpa using hdig
       clear hdig hdl
       go_wp2_with fail
       go_quiet ((go_at_call 107; exact Calls.quiet_of_same (uDigit_c d false HDG.out _)))
       have bn := below_drewN (Below.refl wr.heap.size wr) nq
       have HCq := Lib.hid (HC.out.below bn)
       have HZq := Lib.hid (HZ.out.below bn)
       have HGq := Lib.hid (grown_trans HG2.out (grown_of bn (some rb)))
       generalize hw3 : wr.drewN nq = w3 at *
       clear hw3 bn c1 c2 HC HZ HG2
       have c1 := HCq.out.c1
       have c2 := HCq.out.c2
       have f2 := HCq.out.free 2
       by_cases h0 : q = i
       · have e0 : ((q : Int) == (i : Int)) = true := by rw [beq_iff_eq]; omega
         have HF : Hid (r = 0) := by show _ = _; rw [hst.out]; omega
         have hqe : Hid ((q : Int) = (i : Int)) := by show _ = _; omega
         clear h0 hst
         go_wp2_with fail
         refine (tNoText_c HCq.out).mono ?_
         rintro e w4 ⟨rfl, bn⟩
         have HZf := Lib.hid (HZq.out.below bn)
         have HGf := Lib.hid (grown_trans HGq.out (grown_of bn _))
         have HU := Lib.hid (fitsF 12 (q : Int))
         have HRf := Lib.hid (RowA.fill HZf.out (V' := fltC 12 (q : Int)))
         have HE := Lib.hid (grown_fill HGf.out hqz.out (fltC 12 (q : Int)))
         clear bn
         go_wp2_with (refine wpList_storeV (by rfl) _ _ _ (by rfl) _ (by rfl) _ (by rfl) _ _ (by assumption) (by assumption) ?_)
         refine bodyPost_ret (results_mixed2 rfl _ _ _ 56 (fltC 12 (q : Int)) (0, 0) _ (.int .i64 0) rfl rfl HRf.out Tryz.underlying56 rfl sizeF) rfl ?_
         refine ⟨fun _ => by rw [hqe.out], fun h => ?_, fun h => ?_, HE.out⟩
         · have := HF.out; omega
         · have := HF.out; omega
       · have e0 : ((q : Int) == (i : Int)) = false := by rw [beq_eq_false_iff_ne]; omega
         have HZf := HZq
         have HGf := HGq
         have HU := Lib.hid (fitsF 0 0)
         have HRf := Lib.hid (RowA.fill HZf.out (V' := fltC 0 0))
         have HE := Lib.hid (grown_fill HGf.out hqz.out (fltC 0 0))
         have hne3 := hne2
         have HRd := Lib.hid (Rd.farF HCq.out hne3.out (V := fltC 0 0))
         go_wp2_with (refine wpList_storeV (by rfl) _ _ _ (by rfl) _ (by rfl) _ (by rfl) _ _ (by assumption) (by assumption) ?_)
         refine bodyPost_ret (results_mixed2 rfl _ _ _ 56 (fltC 0 0) (0, 0) _ (.int .i64 (N : Int)) rfl rfl HRf.out Tryz.underlying56 rfl sizeF) rfl ?_
         have hst2 := hst.out
         refine ⟨fun h => by omega, fun h => by omega, ?_, HE.out⟩
         intros
         refine ⟨?_, ?_⟩
         · rw [hst2, HD.out]
         · have e : i + r = q := by omega
           rw [e]; exact HRd.out
   · have hst : Hid (r = q - i) := by show _ = _; rw [← HR.out]; exact run_sp HK.out (fun h => by rw [HL.out] at h; omega)
     obtain rfl : q = s.size := by omega
     clear hlt
     go_wp2_with fail
     go_quiet (fail)
     have bn := below_drewN (Below.refl wr.heap.size wr) nq
     have HCq := Lib.hid (HC.out.below bn)
     have HZq := Lib.hid (HZ.out.below bn)
     have HGq := Lib.hid (grown_trans HG2.out (grown_of bn (some rb)))
     generalize hw3 : wr.drewN nq = w3 at *
     clear hw3 bn c1 c2 HC HZ HG2
     have c1 := HCq.out.c1
     have c2 := HCq.out.c2
     have f2 := HCq.out.free 2
     by_cases h0 : s.size = i
     · have e0 : ((s.size : Int) == (i : Int)) = true := by rw [beq_iff_eq]; omega
       have HF : Hid (r = 0) := by show _ = _; rw [hst.out]; omega
       have hqe : Hid ((s.size : Int) = (i : Int)) := by show _ = _; omega
       clear h0 hst
       go_wp2_with fail
       refine (tNoText_c HCq.out).mono ?_
       rintro e w4 ⟨rfl, bn⟩
       have HZf := Lib.hid (HZq.out.below bn)
       have HGf := Lib.hid (grown_trans HGq.out (grown_of bn _))
       have HU := Lib.hid (fitsF 12 (s.size : Int))
       have HRf := Lib.hid (RowA.fill HZf.out (V' := fltC 12 (s.size : Int)))
       have HE := Lib.hid (grown_fill HGf.out hqz.out (fltC 12 (s.size : Int)))
       clear bn
       go_wp2_with (refine wpList_storeV (by rfl) _ _ _ (by rfl) _ (by rfl) _ (by rfl) _ _ (by assumption) (by assumption) ?_)
       refine bodyPost_ret (results_mixed2 rfl _ _ _ 56 (fltC 12 (s.size : Int)) (0, 0) _ (.int .i64 0) rfl rfl HRf.out Tryz.underlying56 rfl sizeF) rfl ?_
       refine ⟨fun _ => by rw [hqe.out], fun h => ?_, fun h => ?_, HE.out⟩
       · have := HF.out; omega
       · have := HF.out; omega
     · have e0 : ((s.size : Int) == (i : Int)) = false := by rw [beq_eq_false_iff_ne]; omega
       have HZf := HZq
       have HGf := HGq
       have HU := Lib.hid (fitsF 0 0)
       have HRf := Lib.hid (RowA.fill HZf.out (V' := fltC 0 0))
       have HE := Lib.hid (grown_fill HGf.out hqz.out (fltC 0 0))
       have hne3 := hne2
       have HRd := Lib.hid (Rd.farF HCq.out hne3.out (V := fltC 0 0))
       go_wp2_with (refine wpList_storeV (by rfl) _ _ _ (by rfl) _ (by rfl) _ (by rfl) _ _ (by assumption) (by assumption) ?_)
       refine bodyPost_ret (results_mixed2 rfl _ _ _ 56 (fltC 0 0) (0, 0) _ (.int .i64 (N : Int)) rfl rfl HRf.out Tryz.underlying56 rfl sizeF) rfl ?_
       have hst2 := hst.out
       refine ⟨fun h => by omega, fun h => by omega, ?_, HE.out⟩
       intros
       refine ⟨?_, ?_⟩
       · rw [hst2, HD.out]
       · have e : i + r = s.size := by omega
         rw [e]; exact HRd.out
end
end Go.Proofs.YtohokfbohdoijaaGreatDoor

/- What the reader of a unit's text does: an exponent, as a contract over memory. Condition: a text of at most 200 bytes. -/
namespace Go.Proofs.YtohokfbohdoijaaGreatDoor
open Go.RowKit Limb
set_option linter.unusedVariables false
theorem take_while {p : Nat → Bool} : ∀ (l : List Nat), l.take (l.takeWhile p).length = l.takeWhile p
 | [] => rfl
 | c :: l => by
  by_cases h : p c = true
  · rw [List.takeWhile_cons_of_pos h, List.length_cons, List.take_succ_cons, take_while l]
  · rw [List.takeWhile_cons_of_neg h]; rfl
theorem RowA.onward {w w' : World} {g rb : Nat} {T : TypeId} {V : Array Value} (h : RowA w g T V) (hg : w.grownBy w' (some rb)) (hne : rb ≠ g) : RowA w' g T V :=
 (hg.block g h.lt (fun e => hne (by injection e with e; exact e.symm))).trans h
theorem expR_none {l : List Nat} {i j : Nat} (h : l.drop j = skipR (l.drop i)) (hc : j < l.length → lim l j ≠ 94) : expR (l.drop i) = .ok (1, l.drop j) := by
 unfold expR
 rw [← h]
 by_cases hj : j < l.length
 · rw [drop_at hj]; exact if_neg (hc hj)
 · rw [List.drop_eq_nil_of_le (by omega)]; rfl
theorem expR_pos {l : List Nat} {i j k : Nat} (h : l.drop j = skipR (l.drop i)) (hj : j < l.length) (hc : lim l j = 94) (h2 : l.drop k = skipR (l.drop (j + 1))) (hm : k < l.length → lim l k ≠ 45) : expR (l.drop i) = digR (l.drop k) := by
 unfold expR
 rw [← h, drop_at hj, hc]
 show expS (skipR (l.drop (j + 1))) = _
 rw [← h2]
 by_cases hk : k < l.length
 · rw [drop_at hk]; exact if_neg (hm hk)
 · rw [List.drop_eq_nil_of_le (by omega)]; rfl
theorem expR_neg {l : List Nat} {i j k : Nat} (h : l.drop j = skipR (l.drop i)) (hj : j < l.length) (hc : lim l j = 94) (h2 : l.drop k = skipR (l.drop (j + 1))) (hk : k < l.length) (hm : lim l k = 45) : expR (l.drop i) = negR (digR (skipR (l.drop (k + 1)))) := by
 unfold expR
 rw [← h, drop_at hj, hc]
 show expS (skipR (l.drop (j + 1))) = _
 rw [← h2, drop_at hk, hm]
 rfl
def ExpP (w' : World) (rb mb : Nat) (s : ByteArray) (L : List Value) (v E A : Int) : PR (Int × List Nat) → Prop
 | .ok (n, l) => v = n ∧ E = 0 ∧ A = 0 ∧ ∃ j, j ≤ s.size ∧ (bytesOf s).drop j = l ∧ Rd w' rb mb s j L
 | .bad x q => E = x ∧ A = (s.size : Int) - (q : Int) ∧ x ≠ 0
theorem digR_told {w : World} {rb mb j2 r : Nat} {s : ByteArray} {L : List Value} {e : Ending} (hr : litRun ((bytesOf s).drop j2) = r) (hj : j2 ≤ s.size)
 (k0 : r = 0 → e = .returned (.tuple #[.int .i64 0, fltV 12 (j2 : Int)])) (k3 : 3 < r → e = .returned (.tuple #[.int .i64 0, fltV 12 ((j2 + 3 : Nat) : Int)]))
 (k1 : 1 ≤ r ∧ r ≤ 3 → e = .returned (.tuple #[.int .i64 (decV (((bytesOf s).drop j2).take r) : Nat), fltV 0 0]) ∧ Rd w rb mb s (j2 + r) L) :
 ∃ v E A : Int, e = .returned (.tuple #[.int .i64 v, fltV E A]) ∧ (-1000 < v ∧ v < 1000) ∧ (match digR ((bytesOf s).drop j2) with | .ok (n, l) => v = n ∧ E = 0 ∧ A = 0 ∧ ∃ j, j ≤ s.size ∧ (bytesOf s).drop j = l ∧ Rd w rb mb s j L | .bad x q => E = x ∧ A = (s.size : Int) - (q : Int) ∧ x ≠ 0 ∧ v = 0) := by
 have hl : ((bytesOf s).drop j2).length = s.size - j2 := by rw [List.length_drop, length_bytesOf]
 have hrl : r ≤ s.size - j2 := by rw [← hr, ← hl]; exact (List.takeWhile_prefix isDig).length_le
 unfold digR
 rw [hr, hl]
 by_cases h0 : r = 0
 · rw [if_pos h0]
   exact ⟨0, 12, j2, k0 h0, by omega, rfl, by show (j2 : Int) = _; omega, by decide, rfl⟩
 · rw [if_neg h0]
   by_cases h3 : 3 < r
   · rw [if_pos h3]
     exact ⟨0, 12, (j2 + 3 : Nat), k3 h3, by omega, rfl, by show ((j2 + 3 : Nat) : Int) = _; omega, by decide, rfl⟩
   · rw [if_neg h3]
     obtain ⟨e1, e2⟩ := k1 ⟨by omega, by omega⟩
     have hb : decV (((bytesOf s).drop j2).take r) < 10 ^ r := by
      have hd : allDig (((bytesOf s).drop j2).take r) = true := by rw [← hr]; unfold litRun; rw [take_while]; exact List.all_takeWhile
      have := decV_lt hd
      rwa [List.length_take, hl, Nat.min_eq_left hrl] at this
     have hb2 : 10 ^ r ≤ 1000 := Nat.le_trans (Nat.pow_le_pow_right (by decide) (show r ≤ 3 by omega)) (by decide)
     exact ⟨_, 0, 0, e1, by omega, rfl, rfl, rfl, j2 + r, by omega, by rw [List.drop_drop], e2⟩
section
variable {w w' : World} {rb mb i : Nat} {s : ByteArray} {L : List Value}
set_option maxHeartbeats 4000000 in
set_option maxRecDepth 100000 in
theorem tExp_c (h : Rd w rb mb s i L) (hz : s.size ≤ 200) (hi : i ≤ s.size) :
 Calls Tryz.prog 115 #[.pointer (some ⟨rb, 0, none⟩)] w fun e w' => ∃ v E A : Int, e = .returned (.tuple #[.int .i64 v, fltV E A]) ∧ w.grownBy w' (some rb) ∧ ExpP w' rb mb s L v E A (expR ((bytesOf s).drop i)) := by
 have hn0 : rb ≠ w.heap.size := by have := h.lt; omega
 have bn := below_new w (.cells (fltC 0 0) 56)
 have h_rz := rowA_new w 56 (fltC 0 0)
 have HC := Lib.hid (h.below bn)
 have HG := Lib.hid (grown_of bn (some rb))
 have HL := Lib.hid (length_bytesOf s)
 have HI := Lib.hid hi
 clear h bn hi
 go_enter Tryz.func115, Tryz.ntmps115
 go_wp2_with fail
 generalize w.alloc (.cells (fltC 0 0) 56) = w1 at *
 obtain ⟨qz, eq⟩ : ∃ g, g = w.heap.size := ⟨_, rfl⟩
 rw [← eq] at h_rz hn0 ⊢
 have hqz : Hid (w.heap.size ≤ qz) := by show _ ≤ _; omega
 have hne := Lib.hid hn0
 have HZ := Lib.hid h_rz
 clear eq hn0 h_rz
 refine (tSkip_c HC.out hz HI.out).mono ?_
 rintro e w2 ⟨rfl, j0, hlj0, hhj0, hdj0, hr, hg⟩
 have hz2 := RowA.onward (rb := rb) HZ.out hg hne.out
 have hG := grown_trans HG.out hg
 clear HC HZ HG
 have HC := Lib.hid hr
 have HZ := Lib.hid hz2
 have HG := Lib.hid hG
 have HDj0 := Lib.hid hdj0
 have HHj0 := Lib.hid hhj0
 clear hr hz2 hG hg hdj0 hhj0
 go_wp2_with fail
 by_cases hc : j0 < s.size ∧ lim (bytesOf s) j0 = 94
 · have hc1 := Lib.hid hc
   clear hc
   refine (tTake_yes HC.out hz hc1.out.1 94 hc1.out.2).mono ?_
   rintro e w3 ⟨rfl, hr, hg⟩
   have hz2 := RowA.onward (rb := rb) HZ.out hg hne.out
   have hG := grown_trans HG.out hg
   clear HC HZ HG
   have HC := Lib.hid hr
   have HZ := Lib.hid hz2
   have HG := Lib.hid hG
   clear hr hz2 hG hg
   go_wp2_with fail
   refine (tSkip_c HC.out hz (by have := hc1.out.1; omega)).mono ?_
   rintro e w4 ⟨rfl, j1, hlj1, hhj1, hdj1, hr, hg⟩
   have hz2 := RowA.onward (rb := rb) HZ.out hg hne.out
   have hG := grown_trans HG.out hg
   clear HC HZ HG
   have HC := Lib.hid hr
   have HZ := Lib.hid hz2
   have HG := Lib.hid hG
   have HDj1 := Lib.hid hdj1
   have HHj1 := Lib.hid hhj1
   clear hr hz2 hG hg hdj1 hhj1
   go_wp2_with fail
   by_cases hm : j1 < s.size ∧ lim (bytesOf s) j1 = 45
   · have hm1 := Lib.hid hm
     clear hm
     have HX : Hid (expR ((bytesOf s).drop i) = negR (digR (skipR ((bytesOf s).drop (j1 + 1))))) := expR_neg HDj0.out (by rw [HL.out]; exact hc1.out.1) hc1.out.2 HDj1.out (by rw [HL.out]; exact hm1.out.1) hm1.out.2
     have HHat : Hid (j1 + 1 ≤ s.size) := hm1.out.1
     refine (tTake_yes HC.out hz hm1.out.1 45 hm1.out.2).mono ?_
     rintro e w5 ⟨rfl, hr, hg⟩
     have hz2 := RowA.onward (rb := rb) HZ.out hg hne.out
     have hG := grown_trans HG.out hg
     clear HC HZ HG
     have HC := Lib.hid hr
     have HZ := Lib.hid hz2
     have HG := Lib.hid hG
     clear hr hz2 hG hg
     go_wp2_with fail
     refine (tSkip_c HC.out hz HHat.out).mono ?_
     rintro e w6 ⟨rfl, j2, hlj2, hhj2, hdj2, hr, hg⟩
     have hz2 := RowA.onward (rb := rb) HZ.out hg hne.out
     have hG := grown_trans HG.out hg
     clear HC HZ HG
     have HC := Lib.hid hr
     have HZ := Lib.hid hz2
     have HG := Lib.hid hG
     have HDj2 := Lib.hid hdj2
     have HHj2 := Lib.hid hhj2
     clear hr hz2 hG hg hdj2 hhj2
     go_wp2_with fail
     obtain ⟨r, hr⟩ : ∃ r, litRun ((bytesOf s).drop j2) = r := ⟨_, rfl⟩
     refine (tDigits_c HC.out hz HHj2.out r hr).mono ?_
     rintro e w7 ⟨k0, k3, k1, hg⟩
     have hz2 := RowA.onward (rb := rb) HZ.out hg hne.out
     have hG := Lib.hid (grown_trans HG.out hg)
     have HZ2 := Lib.hid hz2
     clear HC HZ HG hz2 hg
     have key : ∃ v E A : Int, e = .returned (.tuple #[.int .i64 v, fltV E A]) ∧ (-1000 < v ∧ v < 1000) ∧ (match digR ((bytesOf s).drop j2) with | .ok (n, l) => v = n ∧ E = 0 ∧ A = 0 ∧ ∃ j, j ≤ s.size ∧ (bytesOf s).drop j = l ∧ Rd w7 rb mb s j L | .bad x q => E = x ∧ A = (s.size : Int) - (q : Int) ∧ x ≠ 0 ∧ v = 0) := digR_told hr HHj2.out k0 k3 k1
     clear k0 k3 k1 hr
     obtain ⟨v, E, A, rfl, ⟨hv1, hv2⟩, hm⟩ := key
     have HM := Lib.hid hm
     clear hm
     have h_rf := rowA_new w7 56 (fltC E A)
     have bn := below_new w7 (.cells (fltC E A) 56)
     have HZ3 := Lib.hid (RowA.below HZ2.out bn)
     have hG3 := Lib.hid (grown_trans hG.out (grown_of bn _))
     have HU := Lib.hid (fitsF E A)
     have hqf : Hid (w7.heap.size ≠ qz) := by show _ ≠ _; have := RowA.lt HZ2.out; omega
     have hBL := Lib.hid bn
     clear bn
     go_wp2_with (refine wpList_storeNew (by rfl) _ _ _ (by rfl) _ _ _ (by rfl) (by rfl) (by assumption) ?_)
     generalize w7.alloc (.cells (fltC E A) 56) = w8 at *
     obtain ⟨qf, eq⟩ : ∃ g, g = w7.heap.size := ⟨_, rfl⟩
     rw [← eq] at h_rf hqf
     rw [← eq]
     clear eq
     have a0 := h_rf.cell (k := 0) (v := .int .i64 E) rfl
     have a1 := h_rf.cell (k := 1) (v := .int .i64 A) rfl
     have b0 := h_rf.drew.cell (k := 0) (v := .int .i64 E) rfl
     have b1 := h_rf.drew.cell (k := 1) (v := .int .i64 A) rfl
     have z0 := HZ3.out.cell (k := 0) (v := .int .i64 0) rfl
     have z1 := HZ3.out.cell (k := 1) (v := .int .i64 0) rfl
     have f0 := HZ3.out.free 0
     have f1 := HZ3.out.free 1
     have y0 := HZ3.out.drew.cell (k := 0) (v := .int .i64 0) rfl
     have y1 := HZ3.out.drew.cell (k := 1) (v := .int .i64 0) rfl
     have hwp : IntKind.i64.wrap (-1 * v) = -v := by rw [IntKind.wrap_i64]; omega
     have hwn : IntKind.i64.wrap (-v) = -v := by rw [IntKind.wrap_i64]; omega
     have hwv : IntKind.i64.wrap v = v := by rw [IntKind.wrap_i64]; omega
     clear h_rf
     go_region
     clear a0 a1 b0 b1 z0 z1 f0 f1 y0 y1 hwp hwn hwv
     have HR : Hid (RowA ((w8.setCell ⟨qz, 0, none⟩ (.int .i64 E)).setCell ⟨qz, 1, none⟩ (.int .i64 A)).drew qz 56 (fltC E A)) := (((HZ3.out.set 0 (.int .i64 E)).set 1 (.int .i64 A)).drew :)
     have HE : Hid (w.grownBy ((w8.setCell ⟨qz, 0, none⟩ (.int .i64 E)).setCell ⟨qz, 1, none⟩ (.int .i64 A)).drew (some rb)) := grown_drew (grown_new (grown_new hG3.out hqz.out 0 (.int .i64 E)) hqz.out 1 (.int .i64 A))
     have HF : Hid (∀ j, Rd w7 rb mb s j L → Rd ((w8.setCell ⟨qz, 0, none⟩ (.int .i64 E)).setCell ⟨qz, 1, none⟩ (.int .i64 A)).drew rb mb s j L) := fun j h => Rd.below (RowA.far (RowA.far (h.below hBL.out) (Ne.symm hne.out) 0 (.int .i64 E)) (Ne.symm hne.out) 1 (.int .i64 A)) (Below.refl _ _).drew
     go_wp2_with fail
     refine bodyPost_ret (results_mixed2 rfl _ _ _ 56 (fltC E A) (0, 0) _ (.int .i64 (-v)) rfl rfl HR.out Tryz.underlying56 rfl sizeF) rfl ?_
     refine ⟨-v, E, A, rfl, HE.out, ?_⟩
     rw [HX.out, ← HDj2.out]
     have hm := HM.out
     cases hd : digR ((bytesOf s).drop j2) with
     | bad x q => rw [hd] at hm; exact ⟨hm.1, hm.2.1, hm.2.2.1⟩
     | ok y =>
      obtain ⟨n, l⟩ := y
      rw [hd] at hm
      obtain ⟨rfl, h2, h3, j, h4, h5, h6⟩ := hm
      exact ⟨rfl, h2, h3, j, h4, h5, HF.out j h6⟩
   · have hm1 : Hid (j1 < s.size → lim (bytesOf s) j1 ≠ 45) := fun h1 h2 => hm ⟨h1, h2⟩
     clear hm
     have HX : Hid (expR ((bytesOf s).drop i) = digR ((bytesOf s).drop j1)) := expR_pos HDj0.out (by rw [HL.out]; exact hc1.out.1) hc1.out.2 HDj1.out (by rw [HL.out]; exact hm1.out)
     have HHat := HHj1
     have HXs : Hid (skipR ((bytesOf s).drop j1) = (bytesOf s).drop j1) := by show _ = _; rw [HDj1.out, skip_skip]
     refine (tTake_no HC.out hz HHj1.out 45 hm1.out).mono ?_
     rintro e w5 ⟨rfl, bn⟩
     have hr := HC.out.below bn
     have hz2 := RowA.below HZ.out bn
     have hG := grown_trans HG.out (grown_of bn _)
     clear HC HZ HG bn
     have HC := Lib.hid hr
     have HZ := Lib.hid hz2
     have HG := Lib.hid hG
     clear hr hz2 hG
     go_wp2_with fail
     refine (tSkip_c HC.out hz HHat.out).mono ?_
     rintro e w6 ⟨rfl, j2, hlj2, hhj2, hdj2, hr, hg⟩
     have hz2 := RowA.onward (rb := rb) HZ.out hg hne.out
     have hG := grown_trans HG.out hg
     clear HC HZ HG
     have HC := Lib.hid hr
     have HZ := Lib.hid hz2
     have HG := Lib.hid hG
     have HDj2 := Lib.hid hdj2
     have HHj2 := Lib.hid hhj2
     clear hr hz2 hG hg hdj2 hhj2
     go_wp2_with fail
     obtain ⟨r, hr⟩ : ∃ r, litRun ((bytesOf s).drop j2) = r := ⟨_, rfl⟩
     refine (tDigits_c HC.out hz HHj2.out r hr).mono ?_
     rintro e w7 ⟨k0, k3, k1, hg⟩
     have hz2 := RowA.onward (rb := rb) HZ.out hg hne.out
     have hG := Lib.hid (grown_trans HG.out hg)
     have HZ2 := Lib.hid hz2
     clear HC HZ HG hz2 hg
     have key : ∃ v E A : Int, e = .returned (.tuple #[.int .i64 v, fltV E A]) ∧ (-1000 < v ∧ v < 1000) ∧ (match digR ((bytesOf s).drop j2) with | .ok (n, l) => v = n ∧ E = 0 ∧ A = 0 ∧ ∃ j, j ≤ s.size ∧ (bytesOf s).drop j = l ∧ Rd w7 rb mb s j L | .bad x q => E = x ∧ A = (s.size : Int) - (q : Int) ∧ x ≠ 0 ∧ v = 0) := digR_told hr HHj2.out k0 k3 k1
     clear k0 k3 k1 hr
     obtain ⟨v, E, A, rfl, ⟨hv1, hv2⟩, hm⟩ := key
     have HM := Lib.hid hm
     clear hm
     have h_rf := rowA_new w7 56 (fltC E A)
     have bn := below_new w7 (.cells (fltC E A) 56)
     have HZ3 := Lib.hid (RowA.below HZ2.out bn)
     have hG3 := Lib.hid (grown_trans hG.out (grown_of bn _))
     have HU := Lib.hid (fitsF E A)
     have hqf : Hid (w7.heap.size ≠ qz) := by show _ ≠ _; have := RowA.lt HZ2.out; omega
     have hBL := Lib.hid bn
     clear bn
     go_wp2_with (refine wpList_storeNew (by rfl) _ _ _ (by rfl) _ _ _ (by rfl) (by rfl) (by assumption) ?_)
     generalize w7.alloc (.cells (fltC E A) 56) = w8 at *
     obtain ⟨qf, eq⟩ : ∃ g, g = w7.heap.size := ⟨_, rfl⟩
     rw [← eq] at h_rf hqf
     rw [← eq]
     clear eq
     have a0 := h_rf.cell (k := 0) (v := .int .i64 E) rfl
     have a1 := h_rf.cell (k := 1) (v := .int .i64 A) rfl
     have b0 := h_rf.drew.cell (k := 0) (v := .int .i64 E) rfl
     have b1 := h_rf.drew.cell (k := 1) (v := .int .i64 A) rfl
     have z0 := HZ3.out.cell (k := 0) (v := .int .i64 0) rfl
     have z1 := HZ3.out.cell (k := 1) (v := .int .i64 0) rfl
     have f0 := HZ3.out.free 0
     have f1 := HZ3.out.free 1
     have y0 := HZ3.out.drew.cell (k := 0) (v := .int .i64 0) rfl
     have y1 := HZ3.out.drew.cell (k := 1) (v := .int .i64 0) rfl
     have hwp : IntKind.i64.wrap (1 * v) = v := by rw [IntKind.wrap_i64]; omega
     have hwn : IntKind.i64.wrap (-v) = -v := by rw [IntKind.wrap_i64]; omega
     have hwv : IntKind.i64.wrap v = v := by rw [IntKind.wrap_i64]; omega
     clear h_rf
     go_region
     clear a0 a1 b0 b1 z0 z1 f0 f1 y0 y1 hwp hwn hwv
     have HR : Hid (RowA ((w8.setCell ⟨qz, 0, none⟩ (.int .i64 E)).setCell ⟨qz, 1, none⟩ (.int .i64 A)).drew qz 56 (fltC E A)) := (((HZ3.out.set 0 (.int .i64 E)).set 1 (.int .i64 A)).drew :)
     have HE : Hid (w.grownBy ((w8.setCell ⟨qz, 0, none⟩ (.int .i64 E)).setCell ⟨qz, 1, none⟩ (.int .i64 A)).drew (some rb)) := grown_drew (grown_new (grown_new hG3.out hqz.out 0 (.int .i64 E)) hqz.out 1 (.int .i64 A))
     have HF : Hid (∀ j, Rd w7 rb mb s j L → Rd ((w8.setCell ⟨qz, 0, none⟩ (.int .i64 E)).setCell ⟨qz, 1, none⟩ (.int .i64 A)).drew rb mb s j L) := fun j h => Rd.below (RowA.far (RowA.far (h.below hBL.out) (Ne.symm hne.out) 0 (.int .i64 E)) (Ne.symm hne.out) 1 (.int .i64 A)) (Below.refl _ _).drew
     go_wp2_with fail
     refine bodyPost_ret (results_mixed2 rfl _ _ _ 56 (fltC E A) (0, 0) _ (.int .i64 v) rfl rfl HR.out Tryz.underlying56 rfl sizeF) rfl ?_
     refine ⟨v, E, A, rfl, HE.out, ?_⟩
     rw [HX.out, ← HXs.out, ← HDj2.out]
     have hm := HM.out
     cases hd : digR ((bytesOf s).drop j2) with
     | bad x q => rw [hd] at hm; exact ⟨hm.1, hm.2.1, hm.2.2.1⟩
     | ok y =>
      obtain ⟨n, l⟩ := y
      rw [hd] at hm
      obtain ⟨rfl, h2, h3, j, h4, h5, h6⟩ := hm
      exact ⟨rfl, h2, h3, j, h4, h5, HF.out j h6⟩
 · have hc1 : Hid (j0 < s.size → lim (bytesOf s) j0 ≠ 94) := fun h1 h2 => hc ⟨h1, h2⟩
   clear hc
   have HX : Hid (expR ((bytesOf s).drop i) = .ok (1, (bytesOf s).drop j0)) := expR_none HDj0.out (by rw [HL.out]; exact hc1.out)
   refine (tTake_no HC.out hz HHj0.out 94 hc1.out).mono ?_
   rintro e w3 ⟨rfl, bn⟩
   have hr := HC.out.below bn
   have hz2 := RowA.below HZ.out bn
   have hG := grown_trans HG.out (grown_of bn _)
   clear HC HZ HG bn
   have HC := Lib.hid hr
   have HZ := Lib.hid hz2
   have HG := Lib.hid hG
   clear hr hz2 hG
   have HR := Lib.hid (RowA.fill HZ.out (V' := fltC 0 0))
   have HE := Lib.hid (grown_fill HG.out hqz.out (fltC 0 0))
   have HF := Lib.hid (Rd.farF HC.out hne.out (V := fltC 0 0))
   go_wp2_with (refine wpList_storeV (by rfl) _ _ _ (by rfl) _ (by rfl) _ (by rfl) _ _ (by assumption) (Lib.hid (fitsF 0 0)) ?_)
   refine bodyPost_ret (results_mixed2 rfl _ _ _ 56 (fltC 0 0) (0, 0) _ (.int .i64 1) rfl rfl HR.out Tryz.underlying56 rfl sizeF) rfl ?_
   refine ⟨1, 0, 0, rfl, HE.out, ?_⟩
   rw [HX.out]
   exact ⟨rfl, rfl, rfl, j0, HHj0.out, rfl, HF.out⟩
end
end Go.Proofs.YtohokfbohdoijaaGreatDoor

/- The reader of a unit's text in memory: its product taken apart and put together. No condition. -/
namespace Go.Proofs.YtohokfbohdoijaaGreatDoor
open Go.RowKit Limb
set_option linter.unusedVariables false
theorem QT.over {w w' : World} {tb : Nat} {T : TypeId} {V : Array Value} (r : RowA w tb T V) (hz : Noughts V) (hg : w.grownBy w' (some tb)) {A : Option Addr} {n c : Nat} {B : Option Addr} {m d : Nat} {o : Option Rat} (hq : QT w A n c B m d o) : QT w' A n c B m d o :=
 ⟨⟨⟨hq.top.nn.isN.over r hz hg, hq.top.nn.val, hq.top.nn.cap, hq.top.nn.le⟩, hq.top.sgn⟩, ⟨hq.bot.isN.over r hz hg, hq.bot.val, hq.bot.cap, hq.bot.le⟩, hq.rd⟩
theorem grown_cells {b : Nat} : ∀ (vs : List Value) (w : World) (o : Nat), w.grownBy (w.setCells b o vs) (some b)
 | [], w, _ => grown_of (Below.refl _ _) _
 | v :: r, w, o => grown_trans (grown_cell w b o v) (grown_cells r _ (o + 1))
theorem rd_noughts {mb : Nat} {s : ByteArray} {i : Int} {a : Bool} {A : Option Addr} {n c : Nat} {B : Option Addr} {m d : Nat} {xs : List Int} : Noughts (rdV mb s i (uL a A n c B m d xs)) := by
 intro k x h
 have h2 := Array.mem_of_getElem? h
 simp [rdV, uL] at h2
section
variable {w : World} {rb mb i : Nat} {s : ByteArray} {a a' : Bool} {A A' B B' : Option Addr} {n c m d n' c' m' d' : Nat} {xs ys : List Int}
theorem Rd.rat (h : Rd w rb mb s i (uL a A n c B m d xs)) : Rd (w.setCells rb 3 [.bool a', .slice A' n' c', .slice B' m' d']) rb mb s i (uL a' A' n' c' B' m' d' xs) := by
 have h3 := ((RowA.set h 3 (.bool a')).set 4 (.slice A' n' c')).set 5 (.slice B' m' d')
 have e : (((rdV mb s (i : Int) (uL a A n c B m d xs)).setIfInBounds 3 (.bool a')).setIfInBounds 4 (.slice A' n' c')).setIfInBounds 5 (.slice B' m' d') = rdV mb s (i : Int) (uL a' A' n' c' B' m' d' xs) := by simp [rdV, uL]
 rw [e] at h3
 exact h3
theorem Rd.dim (h : Rd w rb mb s i (uL a A n c B m d xs)) (hx : xs.length = 7) (hy : ys.length = 7) : Rd (w.setCells rb 6 (dimV ys).toList) rb mb s i (uL a A n c B m d ys) := by
 obtain ⟨x0, x1, x2, x3, x4, x5, x6, rfl⟩ := len7 hx
 obtain ⟨y0, y1, y2, y3, y4, y5, y6, rfl⟩ := len7 hy
 have h3 := ((((((RowA.set h 6 (.int .i64 y0)).set 7 (.int .i64 y1)).set 8 (.int .i64 y2)).set 9 (.int .i64 y3)).set 10 (.int .i64 y4)).set 11 (.int .i64 y5)).set 12 (.int .i64 y6)
 have e : (((((((rdV mb s (i : Int) (uL a A n c B m d [x0, x1, x2, x3, x4, x5, x6])).setIfInBounds 6 (.int .i64 y0)).setIfInBounds 7 (.int .i64 y1)).setIfInBounds 8 (.int .i64 y2)).setIfInBounds 9 (.int .i64 y3)).setIfInBounds 10 (.int .i64 y4)).setIfInBounds 11 (.int .i64 y5)).setIfInBounds 12 (.int .i64 y6) = rdV mb s (i : Int) (uL a A n c B m d [y0, y1, y2, y3, y4, y5, y6]) := by simp [rdV, uL]
 rw [e] at h3
 exact h3
theorem rd_rat (h : Rd w rb mb s i (uL a A n c B m d xs)) : InV w rb 3 #[.bool a, .slice A n c, .slice B m d] :=
 RowA.part h fun j v hv => by
  match j, hv with
  | 0, hv => exact hv
  | 1, hv => exact hv
  | 2, hv => exact hv
theorem rd_dim (h : Rd w rb mb s i (uL a A n c B m d xs)) : InV w rb 6 (dimV xs) :=
 RowA.part h fun j v hv => by
  rw [Nat.add_comm]
  simpa [rdV, uL, dimV, ints] using hv
theorem rd_there (h : Rd w rb mb s i (uL a A n c B m d xs)) (o k : Nat) (hk : o + k ≤ 6 + xs.length) : w.there rb o k := fun j hj => by
 refine ⟨?_, h.free _⟩
 rw [cell_of_block h]
 have : o + j < (rdV mb s (i : Int) (uL a A n c B m d xs)).size := by simp [rdV, uL]; omega
 simp [Array.getElem?_eq_getElem this]
end
end Go.Proofs.YtohokfbohdoijaaGreatDoor
