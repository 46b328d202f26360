/- Part 7 of the texts that the statements of this seat lean on: mathematics, and what functions answer, as contracts over memory; each part says its own conditions. -/
import Derived.Test.YtheaepceghnkpaaGreatDoorM6
import Derived.LoopIn
import Derived.BigQuiet
import Derived.Deep.QuietTactic
import Derived.Test.YtheaepceghnkpaaGreatDoorShelf
import Derived.Shelf.Strconv.AtoiAll
import Derived.Lib.AtoiTie
/- A reader of package parse in memory: its block, the tokens that are left, its row of nodes; what stays. No condition. -/
namespace Go.Proofs.YtheaepceghnkpaaGreatDoor
open Go.RowKit Limb
set_option linter.unusedVariables false
abbrev limK (L : Lim) : Array Value := #[.int .i64 (L.text : Int), .int .i64 (L.deep : Int), .int .i64 (L.nodes : Int), .int .i64 (L.power : Int)]
abbrev rdC (A : Option Addr) (n c : Nat) (en : Nat) (L : Lim) (E P : Int) (C : Option Addr) (m d : Nat) (mad op : Int) : Array Value :=
 #[.slice A n c, .int .i64 (en : Int), .int .i64 (L.text : Int), .int .i64 (L.deep : Int), .int .i64 (L.nodes : Int), .int .i64 (L.power : Int), .int .i64 E, .int .i64 P, .slice C m d, .int .i64 mad, .int .i64 op]
def TokX (w : World) (B : Nat) (A : Option Addr) (n c : Nat) (l : List Tk) : Prop := n = l.length ∧ n ≤ c ∧ c ≤ maxLen ∧ (0 < n → ∃ g o V, A = some ⟨g, o, none⟩ ∧ g < B ∧ RowA w g 89 V ∧ ∀ i t, l[i]? = some t → InV w g (o + i * 3) (tkV t))
theorem TokR.tokX {w : World} {B0 : Nat} {A : Option Addr} {n c : Nat} {ts : List Tk} (h : TokR w A n c ts) (hB0 : w.heap.size ≤ B0) : TokX w B0 A n c ts := by
 obtain ⟨h1, h2, B, h3⟩ := h
 refine ⟨h1, h2, h3.caps.2, fun h0 => ?_⟩
 rcases h3.2 with ⟨hv, h4⟩ | ⟨g, cap, cur, hv, hB, hg, _⟩
 · omega
 · injection hv with h5 h6 h7
   subst h5
   refine ⟨g, 0, cur, rfl, Nat.lt_of_lt_of_le (Array.getElem?_eq_some_iff.1 hg).1 hB0, hg, fun i t hi => ?_⟩
   obtain ⟨g2, e, _, _, h8⟩ := (show TokR w _ n c ts from ⟨h1, h2, B, h3⟩).at hi
   cases e
   rw [Nat.zero_add]; exact h8
theorem TokX.tail {w : World} {B g o n c : Nat} {t : Tk} {l : List Tk} (h : TokX w B (some ⟨g, o, none⟩) (n + 1) c (t :: l)) : TokX w B (some ⟨g, o + 3, none⟩) n (c - 1) l := by
 obtain ⟨h1, h2, h3, h4⟩ := h
 refine ⟨by simp at h1; exact h1, by omega, by omega, fun h0 => ?_⟩
 obtain ⟨g2, o2, V, e, hgB, hr, hc⟩ := h4 (by omega)
 cases e
 refine ⟨g, o + 3, V, rfl, hgB, hr, fun i u hi => ?_⟩
 have := hc (i + 1) u (by simpa using hi)
 rwa [show o + (i + 1) * 3 = o + 3 + i * 3 by omega] at this
theorem TokX.none (w : World) (B : Nat) {A : Option Addr} {c : Nat} (h : c ≤ maxLen) : TokX w B A 0 c [] := ⟨rfl, Nat.zero_le _, h, fun h0 => absurd h0 (by omega)⟩
theorem inV_row {w w' : World} {g o : Nat} {T : TypeId} {V U : Array Value} (h : InV w g o U) (hr : RowA w g T V) (hr' : RowA w' g T V) : InV w' g o U := fun j v hv => by
 rw [← h j v hv]
 unfold RowA at hr hr'
 simp [World.cell?, hr, hr']
theorem gr_of {w w' : World} (h : Below w.heap.size w w') (r : Option Nat) : w.grownBy w' r := ⟨h.os, h.tape, h.output, h.size, fun i hi _ => h.block i hi⟩
theorem gr_trans {a b c : World} {r : Option Nat} (h : a.grownBy b r) (k : b.grownBy c r) : a.grownBy c r :=
 ⟨k.os.trans h.os, k.tape.trans h.tape, k.output.trans h.output, Nat.le_trans h.size k.size, fun i hi hr => (k.block i (Nat.lt_of_lt_of_le hi h.size) hr).trans (h.block i hi hr)⟩
structure Kn (B q : Nat) (w w' : World) : Prop where
 os : w'.os = w.os
 tape : w'.tape = w.tape
 output : w'.output = w.output
 size : w.heap.size ≤ w'.heap.size
 block : ∀ i, i < w.heap.size → i ≠ q → (B ≤ i → ∀ V f, w.heap[i]? ≠ some (.cells V 47 f)) → w'.heap[i]? = w.heap[i]?
theorem Kn.of {B q : Nat} {w w' : World} (h : w.grownBy w' (some q)) : Kn B q w w' := ⟨h.os, h.tape, h.output, h.size, fun i hi hq _ => h.block i hi (fun e => hq (by injection e))⟩
theorem Kn.below {B q : Nat} {w w' : World} (h : Below w.heap.size w w') : Kn B q w w' := Kn.of (gr_of h _)
theorem Kn.trans {B q : Nat} {a b c : World} (h : Kn B q a b) (k : Kn B q b c) : Kn B q a c :=
 ⟨k.os.trans h.os, k.tape.trans h.tape, k.output.trans h.output, Nat.le_trans h.size k.size, fun i hi hq hn => by
   have e := h.block i hi hq hn
   rw [← e]
   refine k.block i (Nat.lt_of_lt_of_le hi h.size) hq fun hB V f => ?_
   rw [e]; exact hn hB V f⟩
theorem Kn.row {B q g : Nat} {w w' : World} {T : TypeId} {V : Array Value} (h : Kn B q w w') (hr : RowA w g T V) (hq : g ≠ q) (ht : T ≠ 47) : RowA w' g T V :=
 (h.block g hr.lt hq (fun _ U f e => by unfold RowA at hr; rw [hr] at e; injection e with e; injection e with _ e2; exact ht e2)).trans hr
theorem Kn.cell {B q g k : Nat} {w w' : World} {v : Value} (h : Kn B q w w') (hc : w.cell? ⟨g, k, none⟩ = some v) (hB : g < B) (hq : g ≠ q) : w'.cell? ⟨g, k, none⟩ = some v := by
 have hlt := kcell_lt hc
 have e := h.block g hlt hq (fun hb => absurd hB (by omega))
 rw [← hc]
 simp [World.cell?, e]
theorem TokX.kn {B q n c : Nat} {w w' : World} {A : Option Addr} {l : List Tk} (h : TokX w B A n c l) (k : Kn B q w w') {V : Array Value} (hq : RowA w q 62 V) : TokX w' B A n c l := by
 obtain ⟨h1, h2, h3, h4⟩ := h
 refine ⟨h1, h2, h3, fun h0 => ?_⟩
 obtain ⟨g, o, U, e, hgB, hr, hc⟩ := h4 h0
 have hne : g ≠ q := by
  rintro rfl
  unfold RowA at hr hq
  rw [hr] at hq
  injection hq with hq
  injection hq with _ e2
  exact absurd e2 (by decide)
 have hr' := k.row hr hne (by decide)
 exact ⟨g, o, U, e, hgB, hr', fun i t hi => inV_row (hc i t hi) hr hr'⟩
def wordB (i : Nat) : List Nat := if i = 1 then [117, 110, 105, 116] else if i = 2 then [115, 111, 117, 114, 99, 101] else if i = 3 then [99, 111, 118] else if i = 4 then [108, 101, 116] else if i = 5 then [111, 117, 116, 112, 117, 116] else []
def WTab (w : World) : Prop := ∀ i, i < 6 → w.cell? ⟨0, i, none⟩ = some (.string (strOf (wordB i)))
def ETab (w : World) : Prop := (∃ te pe, w.cell? ⟨2, 0, none⟩ = some (.iface te pe)) ∧ ∃ te pe, w.cell? ⟨3, 0, none⟩ = some (.iface te pe)
def PTab (w : World) : Prop := XTab w ∧ WTab w ∧ ETab w
def q0 : Nat := max 5 (max 1 (max 0 (max 2 3)))
theorem q0_k : 5 ≤ q0 := by unfold q0; omega
theorem q0_x : 1 ≤ q0 := by unfold q0; omega
theorem q0_w : 0 ≤ q0 := by unfold q0; omega
theorem q0_s : 2 ≤ q0 := by unfold q0; omega
theorem q0_r : 3 ≤ q0 := by unfold q0; omega
theorem PTab.same {w w' : World} (h : PTab w) (k : ∀ (g i : Nat) (v : Value), g ≤ q0 → w.cell? ⟨g, i, none⟩ = some v → w'.cell? ⟨g, i, none⟩ = some v) : PTab w' := by
 obtain ⟨⟨h1, h2⟩, h3, ⟨te, pe, h4⟩, te2, pe2, h5⟩ := h
 exact ⟨⟨fun i hi => k _ i _ q0_k (h1 i hi), fun i hi => k _ i _ q0_x (h2 i hi)⟩, fun i hi => k _ i _ q0_w (h3 i hi), ⟨te, pe, k _ 0 _ q0_s h4⟩, te2, pe2, k _ 0 _ q0_r h5⟩
theorem PTab.lt {w : World} (h : PTab w) : q0 < w.heap.size := by
 obtain ⟨⟨h1, h2⟩, h3, ⟨te, pe, h4⟩, te2, pe2, h5⟩ := h
 have k1 := kcell_lt (h1 0 (by decide))
 have k2 := kcell_lt (h2 0 (by decide))
 have k3 := kcell_lt (h3 0 (by decide))
 have k4 := kcell_lt h4
 have k5 := kcell_lt h5
 dsimp only at k1 k2 k3 k4 k5
 unfold q0
 omega
theorem PTab.below {w w' : World} (h : PTab w) (hb : Below w.heap.size w w') : PTab w' := h.same fun g i v hg hc => (hb.cell (p := ⟨g, i, none⟩) (kcell_lt hc)).trans hc
def Tbl (w : World) (q : Nat) : Prop := PTab w ∧ q0 < q
theorem Tbl.kn {B q : Nat} {w w' : World} (h : Tbl w q) (k : Kn B q w w') (hB : q < B) : Tbl w' q :=
 ⟨h.1.same fun g i v hg hc => k.cell hc (by have := h.2; omega) (by have := h.2; omega), h.2⟩
theorem Tbl.below {q : Nat} {w w' : World} (h : Tbl w q) (hb : Below w.heap.size w w') : Tbl w' q := ⟨h.1.below hb, h.2⟩
def TkF (t : Tk) : Prop := Bytes t.2.1 ∧ t.2.1.length ≤ 5000 ∧ (t.1 = 2 → ∃ c r, t.2.1 = c :: r ∧ isDig c = true)
def RdW (w : World) (B q en : Nat) (L : Lim) (st : St) : Prop := ∃ A n c C m d ts, RowA w q 62 (rdC A n c en L st.E st.P C m d st.mad st.op) ∧ TokX w B A n c st.l ∧ OwnT w B C m d ts ∧ ts.length = st.ts.length ∧ (st.E = 0 → ts = st.ts) ∧ q < B ∧ Tbl w q ∧ (∀ t ∈ st.l, TkF t) ∧ (st.E ≠ 0 → st.l = [])
section
variable {w w' : World} {B q en : Nat} {L : Lim} {st : St}
theorem RdW.lt (h : RdW w B q en L st) : q < w.heap.size := by obtain ⟨A, n, c, C, m, d, ts, h1, _⟩ := h; exact h1.lt
theorem RdW.below (h : RdW w B q en L st) (hb : Below w.heap.size w w') : RdW w' B q en L st := by
 obtain ⟨A, n, c, C, m, d, ts, h1, h2, h3, h4, h5, h6, h7, h8⟩ := h
 exact ⟨A, n, c, C, m, d, ts, h1.below hb, h2.kn (Kn.below (B := B) hb) h1, ⟨h3.1, h3.2.below hb⟩, h4, h5, h6, h7.below hb, h8⟩
end
end Go.Proofs.YtheaepceghnkpaaGreatDoor

/- What the reader of package parse does with tokens and faults (more, faulty, fail, peek, read, refuse), as contracts over memory. Condition: a reader that reads in memory. -/
namespace Go.Proofs.YtheaepceghnkpaaGreatDoor
open Go.RowKit Limb
set_option linter.unusedVariables false
theorem fitsTk (k : Int) (s : ByteArray) (a : Int) : Many Tryz.prog 89 (tkC k s a).size ∧ (tkC 0 ⟨#[]⟩ 0).size = (tkC k s a).size ∧ ∀ v ∈ tkC k s a, v.oneCell' = true := ⟨manyTk k s a, rfl, by simp [Value.oneCell']⟩
theorem tr_ne_tn : 62 ≠ 47 := by decide
theorem OwnT.q {w w' : World} {B q m d : Nat} {C : Option Addr} {ts : List Nd} {V : Array Value} (h : OwnT w B C m d ts) (hr : RowA w q 62 V) (hg : w.grownBy w' (some q)) : OwnT w' B C m d ts :=
 ⟨h.1, h.2.over hg fun g e => by cases e; exact h.2.differ hr tr_ne_tn⟩
theorem RdW.put {w w' : World} {B q en : Nat} {L : Lim} {st st' : St} (h : RdW w B q en L st) (hg : w.grownBy w' (some q)) (hts : st'.ts = st.ts) (hE : st'.E = 0 → st.E = 0) (hl : ∀ t ∈ st'.l, t ∈ st.l) (hi : st'.E ≠ 0 → st'.l = [])
 (hk : ∀ (A : Option Addr) (n c : Nat) (C : Option Addr) (m d : Nat), RowA w q 62 (rdC A n c en L st.E st.P C m d st.mad st.op) → TokX w B A n c st.l → ∃ A2 n2 c2, RowA w' q 62 (rdC A2 n2 c2 en L st'.E st'.P C m d st'.mad st'.op) ∧ TokX w B A2 n2 c2 st'.l) : RdW w' B q en L st' := by
 obtain ⟨A, n, c, C, m, d, ts, h1, h2, h3, h4, h5, h6, h7, h8⟩ := h
 obtain ⟨A2, n2, c2, k1, k2⟩ := hk A n c C m d h1 h2
 exact ⟨A2, n2, c2, C, m, d, ts, k1, k2.kn (Kn.of (B := B) hg) h1, h3.q h1 hg, by rw [hts]; exact h4, fun e => by rw [hts]; exact h5 (hE e), h6, h7.kn (Kn.of hg) h6, ⟨fun t ht => h8.1 t (hl t ht), hi⟩⟩
section
variable {w : World} {B q en : Nat} {L : Lim} {st : St}
set_option maxHeartbeats 4000000 in
set_option maxRecDepth 100000 in
theorem pMore_c (h : RdW w B q en L st) : Calls Tryz.prog 25 #[.pointer (some ⟨q, 0, none⟩)] w fun e w' => e = .returned (.bool (decide (0 < st.l.length))) ∧ w' = w := by
 obtain ⟨A, n, c, C, m, d, ts, h1, h2, _⟩ := h
 have c0 := h1.cell (k := 0) (v := .slice A n c) rfl
 have hn := h2.1
 clear h1 h2
 rw [← hn]
 clear hn
 go_enter Tryz.func25, Tryz.ntmps25
 go_wp2
 go_ret
 exact ⟨rfl, rfl⟩
set_option maxHeartbeats 4000000 in
set_option maxRecDepth 100000 in
theorem pFaulty_c (h : RdW w B q en L st) : Calls Tryz.prog 27 #[.pointer (some ⟨q, 0, none⟩)] w fun e w' => e = .returned (.bool (!decide (st.E = 0))) ∧ w' = w := by
 obtain ⟨A, n, c, C, m, d, ts, h1, _⟩ := h
 generalize st.E = E at *
 have c0 := h1.cell (k := 6) (v := .int .i64 E) rfl
 clear h1
 by_cases h0 : E = 0
 · subst h0
   go_enter Tryz.func27, Tryz.ntmps27
   go_wp2
   go_ret
   exact ⟨rfl, rfl⟩
 · have he : (E != 0) = true := by simp [h0]
   rw [decide_eq_false h0]
   clear h0
   go_enter Tryz.func27, Tryz.ntmps27
   go_wp2
   go_ret
   exact ⟨rfl, rfl⟩
set_option maxHeartbeats 4000000 in
set_option maxRecDepth 100000 in
theorem pFail_x (h : RdW w B q en L st) (e p : Int) (he : e ≠ 0) : Calls Tryz.prog 47 #[.pointer (some ⟨q, 0, none⟩), .int .i64 e, .int .i64 p] w fun x w' => x = .returned (.tuple #[]) ∧ RdW w' B q en L (failS e p st) ∧ w.grownBy w' (some q) ∧ (∀ (A C : Option Addr) (n c m d : Nat) (mk op E P : Int), RowA w q 62 (rdC A n c en L E P C m d mk op) → ∃ A2 n2 c2 E2 P2, RowA w' q 62 (rdC A2 n2 c2 en L E2 P2 C m d mk op)) := by
 have H := Lib.hid h
 by_cases h0 : st.E = 0
 · obtain ⟨A, n, c, C, m, d, ts, h1, _⟩ := h
   have hf := Lib.hid h0
   have f0 := h1.free 0
   have f6 := h1.free 6
   have f7 := h1.free 7
   have k6 := h1.cell (k := 6) (v := .int .i64 st.E) rfl
   have k7 := h1.cell (k := 7) (v := .int .i64 st.P) rfl
   have k0 := h1.cell (k := 0) (v := .slice A n c) rfl
   clear h1
   rw [h0] at k6
   go_enter Tryz.func47, Tryz.ntmps47
   go_wp2_with (go_at_call 27; refine (pFaulty_c H.out).mono ?_; rintro e w1 ⟨rfl, rfl⟩; rw [decide_eq_true h0])
   go_end0
   have hg := gr_trans (gr_trans (grown_set w1 q 6 (.int .i64 e)) (grown_set _ q 7 (.int .i64 p))) (grown_set _ q 0 (.slice none 0 0))
   refine ⟨rfl, H.out.put hg ?_ ?_ ?_ ?_ ?_, hg, fun A C n c m d mk op E P h1 => ⟨none, 0, 0, e, p, ((h1.set 6 _).set 7 _).set 0 _⟩⟩
   · unfold failS; rw [if_pos h0]
   · intro _; exact h0
   · unfold failS; rw [if_pos h0]; simp
   · unfold failS; rw [if_pos h0]; exact fun _ => rfl
   · intro A n c C m d h1 h2
     unfold failS
     rw [if_pos h0]
     exact ⟨none, 0, 0, ((h1.set 6 _).set 7 _).set 0 _, TokX.none _ _ (Nat.zero_le _)⟩
 · clear h
   go_enter Tryz.func47, Tryz.ntmps47
   go_wp2_with (go_at_call 27; refine (pFaulty_c H.out).mono ?_; rintro e w1 ⟨rfl, rfl⟩; rw [decide_eq_false h0])
   go_end0
   unfold failS
   rw [if_neg h0]
   exact ⟨rfl, H.out, gr_of (Below.refl _ _) _, fun A C n c m d mk op E P h1 => ⟨A, n, c, E, P, h1⟩⟩
theorem pFail_c (h : RdW w B q en L st) (e p : Int) (he : e ≠ 0) : Calls Tryz.prog 47 #[.pointer (some ⟨q, 0, none⟩), .int .i64 e, .int .i64 p] w fun x w' => x = .returned (.tuple #[]) ∧ RdW w' B q en L (failS e p st) ∧ w.grownBy w' (some q) := (pFail_x h e p he).mono fun x w' h => ⟨h.1, h.2.1, h.2.2.1⟩
set_option maxHeartbeats 4000000 in
set_option maxRecDepth 100000 in
theorem pPeek_c (h : RdW w B q en L st) : Calls Tryz.prog 50 #[.pointer (some ⟨q, 0, none⟩)] w fun x w' => x = .returned (.agg (tkV (pkS st))) ∧ Below w.heap.size w w' := by
 have bn := below_new w (.cells (tkC 0 ⟨#[]⟩ 0) 89)
 have H := Lib.hid (h.below bn)
 cases e : st.l with
 | nil =>
  have hl : Hid (decide (0 < st.l.length) = false) := by show _ = _; rw [e]; rfl
  have HR := Lib.hid (rowA_new w 89 (tkC 0 ⟨#[]⟩ 0))
  have HU := Lib.hid (fitsTk 0 ⟨#[]⟩ 0)
  have HB := Lib.hid bn
  have HE : Hid (tkV (pkS st) = tkC 0 ⟨#[]⟩ 0) := by show _ = _; rw [pkS, e]; rfl
  clear bn h e
  go_enter Tryz.func50, Tryz.ntmps50
  go_wp2_with (first | (go_at_call 25; refine (pMore_c H.out).mono ?_; rintro e w1 ⟨rfl, rfl⟩; rw [hl.out]) | (refine wpList_storeNew (by rfl) _ _ _ (by rfl) _ _ _ (by rfl) (by rfl) (by assumption) ?_))
  refine bodyPost_ret (results_cell_row rfl _ _ _ 89 (tkC 0 ⟨#[]⟩ 0) (0, 0) _ rfl HR.out Tryz.underlying89 rfl sizeTk) rfl ?_
  rw [HE.out]
  exact ⟨rfl, HB.out⟩
 | cons t r =>
  have hl : Hid (decide (0 < st.l.length) = true) := by show _ = _; rw [e]; simp
  obtain ⟨A, n, c, C, m, d, ts, h1, h2, _⟩ := h.below bn
  obtain ⟨hn, hc, hm, h4⟩ := h2
  rw [e] at hn
  have hn1 : 1 ≤ n := by rw [hn]; simp
  obtain ⟨g, o, V, rfl, _, hr, hin⟩ := h4 (by omega)
  have HI := Lib.hid (hin 0 t (by rw [e]; rfl))
  have HE : Hid (tkV (pkS st) = tkV t) := by show _ = _; rw [pkS, e]; rfl
  have c0 := h1.cell (k := 0) (v := .slice (some ⟨g, o, none⟩) n c) rfl
  have HM : Hid (Many Tryz.prog 89 (tkV t).size) := manyTk _ _ _
  have HR := Lib.hid (rowA_new w 89 (tkV t))
  have HB := Lib.hid (below_new w (.cells (tkV t) 89))
  have HU : Hid (Many Tryz.prog 89 (tkV t).size ∧ (tkC 0 ⟨#[]⟩ 0).size = (tkV t).size ∧ ∀ v ∈ tkV t, v.oneCell' = true) := fitsTk _ _ _
  have hp : (0 : Int) < (n : Int) := by omega
  rw [Nat.zero_mul] at HI
  clear bn h e h1 hr hin hn h4
  go_enter Tryz.func50, Tryz.ntmps50
  go_wp2_with (first | (go_at_call 25; refine (pMore_c H.out).mono ?_; rintro e w1 ⟨rfl, rfl⟩; rw [hl.out]) | (refine wpList_loadV (by rfl) _ _ (by rfl) _ _ (by rfl) _ (by assumption) (by assumption) ?_) | (refine wpList_storeNew (by rfl) _ _ _ (by rfl) _ _ _ (by rfl) (by rfl) (by assumption) ?_))
  refine bodyPost_ret (results_cell_row rfl _ _ _ 89 (tkV t) (0, 0) _ rfl HR.out Tryz.underlying89 rfl sizeTk) rfl ?_
  rw [HE.out]
  exact ⟨rfl, HB.out⟩
end
end Go.Proofs.YtheaepceghnkpaaGreatDoor

/- What the reader of package parse does with tokens (read, refuse, sees, sign), as contracts over memory. Condition: a reader that reads in memory. -/
namespace Go.Proofs.YtheaepceghnkpaaGreatDoor
open Go.RowKit Limb
set_option linter.unusedVariables false
theorem gr_fill {w w' : World} {q g : Nat} (h : w.grownBy w' (some q)) (hg : w.heap.size ≤ g) (V : Array Value) : w.grownBy (w'.setRow g V) (some q) :=
 ⟨h.os, h.tape, h.output, by rw [setRow_size]; exact h.size, fun k hk hr => (setRow_other w' g k V (by omega)).trans (h.block k hk hr)⟩
def C8 (q : Nat) (w w' : World) : Prop := w'.cell? ⟨q, 8, none⟩ = w.cell? ⟨q, 8, none⟩
theorem C8.below {q : Nat} {w w' : World} (h : Below w.heap.size w w') (hq : q < w.heap.size) : C8 q w w' := h.cell (p := ⟨q, 8, none⟩) hq
theorem C8.trans {q : Nat} {a b c : World} (h : C8 q a b) (k : C8 q b c) : C8 q a c := Eq.trans k h
theorem C8.rows {w w' : World} {q en en2 : Nat} {L L2 : Lim} {A A2 C : Option Addr} {n n2 c c2 m d : Nat} {E E2 P P2 mk mk2 op op2 : Int} (h : RowA w q 62 (rdC A n c en L E P C m d mk op)) (k : RowA w' q 62 (rdC A2 n2 c2 en2 L2 E2 P2 C m d mk2 op2)) : C8 q w w' :=
 (k.cell (k := 8) (v := .slice C m d) rfl).trans (h.cell (k := 8) (v := .slice C m d) rfl).symm
section
variable {w : World} {B q en : Nat} {L : Lim} {st : St}
set_option maxHeartbeats 4000000 in
set_option maxRecDepth 100000 in
theorem pRead_x (h : RdW w B q en L st) : Calls Tryz.prog 51 #[.pointer (some ⟨q, 0, none⟩)] w fun x w' => x = .returned (.agg (tkV (pkS st))) ∧ RdW w' B q en L (rdS st) ∧ w.grownBy w' (some q) ∧ C8 q w w' := by
 have hlt := h.lt
 have bn := below_new w (.cells (tkC 0 ⟨#[]⟩ 0) 89)
 have H1 := Lib.hid (h.below bn)
 have HR1 := rowA_new w 89 (tkC 0 ⟨#[]⟩ 0)
 have H := Lib.hid h
 have HB1 := Lib.hid bn
 obtain ⟨g1, hg1⟩ : ∃ g, g = w.heap.size := ⟨_, rfl⟩
 rw [← hg1] at HR1
 have Hg1 := Lib.hid hg1
 have Hq := Lib.hid hlt
 clear bn h hlt
 go_enter Tryz.func51, Tryz.ntmps51
 go_wp2_with fail
 rw [← hg1]
 clear hg1
 generalize w.alloc (.cells (tkC 0 ⟨#[]⟩ 0) 89) = w1 at *
 refine (pPeek_c H1.out).mono ?_
 rintro e w2 ⟨rfl, bn⟩
 have HB2 := Lib.hid (below_two HB1.out bn)
 have hq3 : Hid (q < w2.heap.size) := Nat.lt_of_lt_of_le Hq.out HB2.out.size
 have HR2 := HR1.below bn
 have b3 := below_new w2 (.cells (tkV (pkS st)) 89)
 have HB3 := Lib.hid (below_two HB2.out b3)
 have HRa := Lib.hid (HR2.below b3)
 have HRb := rowA_new w2 89 (tkV (pkS st))
 have HU : Hid (Many Tryz.prog 89 (tkV (pkS st)).size ∧ (tkC 0 ⟨#[]⟩ 0).size = (tkV (pkS st)).size ∧ ∀ v ∈ tkV (pkS st), v.oneCell' = true) := fitsTk _ _ _
 have HM : Hid (Many Tryz.prog 89 (tkV (pkS st)).size) := manyTk _ _ _
 have H3 := Lib.hid (H.out.below HB3.out)
 have hlw := Lib.hid (Nat.lt_of_lt_of_le HRb.lt (Nat.le_refl _))
 obtain ⟨g3, hg3⟩ : ∃ g, g = w2.heap.size := ⟨_, rfl⟩
 rw [← hg3] at HRb
 have Hg3 := Lib.hid hg3
 have Hg31 : Hid (g1 ≠ g3) := by
  show _ ≠ _
  have := HR2.lt
  omega
 have HI := Lib.hid HRb.inV
 have HRb := Lib.hid HRb
 clear bn HR1 HR2 H1 HB1 HB2
 go_wp2_with (refine wpList_storeNew (by rfl) _ _ _ (by rfl) _ _ _ (by rfl) (by rfl) (by assumption) ?_)
 rw [← hg3]
 clear hg3
 generalize w2.alloc (.cells (tkV (pkS st)) 89) = w3 at *
 cases e : st.l with
 | nil =>
  have hl : Hid (decide (0 < st.l.length) = false) := by show _ = _; rw [e]; rfl
  have he := Lib.hid e
  have HRf := Lib.hid (RowA.fill HRa.out (V' := tkV (pkS st)))
  clear e
  go_wp2_with (first | (go_at_call 25; refine (pMore_c H3.out).mono ?_; rintro e w1 ⟨rfl, rfl⟩; rw [hl.out]) | (refine wpList_loadV (by rfl) _ _ (by rfl) _ _ (by rfl) _ (by assumption) (by assumption) ?_) | (refine wpList_storeV (by rfl) _ _ _ (by rfl) _ (by rfl) _ (by rfl) _ _ (by assumption) (by assumption) ?_))
  refine bodyPost_ret (results_cell_row rfl _ _ _ 89 (tkV (pkS st)) (0, 0) _ rfl HRf.out Tryz.underlying89 rfl sizeTk) rfl ?_
  have hb := below_fillRow HB3.out (Nat.le_of_eq Hg1.out.symm) (tkV (pkS st))
  refine ⟨rfl, ?_, gr_of hb _, C8.below hb Hq.out⟩
  have hst : rdS st = st := by
   cases st
   have := he.out
   dsimp only at this
   subst this; rfl
  rw [hst]
  exact H.out.below hb
 | cons t r =>
  have hl : Hid (decide (0 < st.l.length) = true) := by show _ = _; rw [e]; simp
  have he := Lib.hid e
  obtain ⟨A, n, c, C, m, d, ts, h1, h2, h3, h4, h5, h6, h7, h8⟩ := id H.out
  have k1 := (h1.below HB3.out)
  have c0 := k1.cell (k := 0) (v := .slice A n c) rfl
  have f0 := k1.free 0
  have hn := h2.1
  have hc := h2.2.1
  have hm := h2.2.2.1
  rw [e] at hn
  obtain ⟨k, rfl⟩ : ∃ k, n = k + 1 := ⟨n - 1, by simp at hn; omega⟩
  obtain ⟨g, o, V, rfl, _, hr, hin⟩ := h2.2.2.2 (by omega)
  rw [e] at h2
  by_cases hc1 : c = 1
  · subst hc1
    obtain rfl : k = 0 := by omega
    have hT : TokX w B (some ⟨g, o, none⟩) 0 0 r := by
     have : r = [] := List.length_eq_zero_iff.1 (by rw [List.length_cons] at hn; omega)
     rw [this]; exact TokX.none _ _ (Nat.zero_le _)
    have HRc := Lib.hid (HRb.out.far (show q ≠ g3 by have := hq3.out; have := Hg3.out; omega) 0 (.slice (some ⟨g, o, none⟩) 0 0))
    have HI2 := Lib.hid HRc.out.inV
    have hqg1 : q ≠ g1 := by have := Hq.out; have := Hg1.out; omega
    have HRd := Lib.hid (HRa.out.far hqg1 0 (.slice (some ⟨g, o, none⟩) 0 0))
    have HRf := Lib.hid (RowA.fill HRd.out (V' := tkV (pkS st)))
    have hg := gr_fill (gr_trans (gr_of HB3.out (some q)) (grown_set w3 q 0 (.slice (some ⟨g, o, none⟩) 0 0))) (Nat.le_of_eq Hg1.out.symm) (tkV (pkS st))
    have hrow : RowA ((w3.setCell ⟨q, 0, none⟩ (.slice (some ⟨g, o, none⟩) 0 0)).setRow g1 (tkV (pkS st))) q 62 (rdC (some ⟨g, o, none⟩) 0 0 en L st.E st.P C m d st.mad st.op) := RowA.farRow (k1.set 0 _) (Ne.symm hqg1)
    have hfin : RdW ((w3.setCell ⟨q, 0, none⟩ (.slice (some ⟨g, o, none⟩) 0 0)).setRow g1 (tkV (pkS st))) B q en L (rdS st) := by
     refine ⟨_, _, _, C, m, d, ts, hrow, ?_, h3.q h1 hg, h4, h5, h6, h7.kn (Kn.of hg) h6, fun u hu => h8.1 u (List.mem_of_mem_tail hu), fun hne => by show st.l.tail = []; rw [h8.2 hne]; rfl⟩
     show TokX _ _ _ _ _ st.l.tail
     rw [e, List.tail_cons]
     exact hT.kn (Kn.of (B := B) hg) h1
    have HG := Lib.hid hg
    have HF := Lib.hid hfin
    have H8 := Lib.hid (C8.rows h1 hrow)
    clear e hr hin h2 h3 h4 h5 h7 h8 h1 hg hfin hrow hqg1 hT hn
    go_wp2_with (first | (go_at_call 25; refine (pMore_c H3.out).mono ?_; rintro e w1 ⟨rfl, rfl⟩; rw [hl.out]) | (refine wpList_loadV (by rfl) _ _ (by rfl) _ _ (by rfl) _ (by assumption) (by assumption) ?_) | (refine wpList_storeV (by rfl) _ _ _ (by rfl) _ (by rfl) _ (by rfl) _ _ (by assumption) (by assumption) ?_))
    refine bodyPost_ret (results_cell_row rfl _ _ _ 89 (tkV (pkS st)) (0, 0) _ rfl HRf.out Tryz.underlying89 rfl sizeTk) rfl ?_
    exact ⟨rfl, HF.out, HG.out, H8.out⟩
  · have hc2 : (c - 1 == 0) = false := by rw [beq_eq_false_iff_ne]; omega
    have hT := h2.tail
    have HRc := Lib.hid (HRb.out.far (show q ≠ g3 by have := hq3.out; have := Hg3.out; omega) 0 (.slice (some ⟨g, o + 3, none⟩) k (c - 1)))
    have HI2 := Lib.hid HRc.out.inV
    have hqg1 : q ≠ g1 := by have := Hq.out; have := Hg1.out; omega
    have HRd := Lib.hid (HRa.out.far hqg1 0 (.slice (some ⟨g, o + 3, none⟩) k (c - 1)))
    have HRf := Lib.hid (RowA.fill HRd.out (V' := tkV (pkS st)))
    have hg := gr_fill (gr_trans (gr_of HB3.out (some q)) (grown_set w3 q 0 (.slice (some ⟨g, o + 3, none⟩) k (c - 1)))) (Nat.le_of_eq Hg1.out.symm) (tkV (pkS st))
    have hrow : RowA ((w3.setCell ⟨q, 0, none⟩ (.slice (some ⟨g, o + 3, none⟩) k (c - 1))).setRow g1 (tkV (pkS st))) q 62 (rdC (some ⟨g, o + 3, none⟩) k (c - 1) en L st.E st.P C m d st.mad st.op) := RowA.farRow (k1.set 0 _) (Ne.symm hqg1)
    have hfin : RdW ((w3.setCell ⟨q, 0, none⟩ (.slice (some ⟨g, o + 3, none⟩) k (c - 1))).setRow g1 (tkV (pkS st))) B q en L (rdS st) := by
     refine ⟨_, _, _, C, m, d, ts, hrow, ?_, h3.q h1 hg, h4, h5, h6, h7.kn (Kn.of hg) h6, fun u hu => h8.1 u (List.mem_of_mem_tail hu), fun hne => by show st.l.tail = []; rw [h8.2 hne]; rfl⟩
     show TokX _ _ _ _ _ st.l.tail
     rw [e, List.tail_cons]
     exact hT.kn (Kn.of (B := B) hg) h1
    have HG := Lib.hid hg
    have HF := Lib.hid hfin
    have H8 := Lib.hid (C8.rows h1 hrow)
    clear e hr hin h2 h3 h4 h5 h7 h8 h1 hg hfin hrow hqg1 hT hn
    go_wp2_with (first | (go_at_call 25; refine (pMore_c H3.out).mono ?_; rintro e w1 ⟨rfl, rfl⟩; rw [hl.out]) | (refine wpList_loadV (by rfl) _ _ (by rfl) _ _ (by rfl) _ (by assumption) (by assumption) ?_) | (refine wpList_storeV (by rfl) _ _ _ (by rfl) _ (by rfl) _ (by rfl) _ _ (by assumption) (by assumption) ?_))
    refine bodyPost_ret (results_cell_row rfl _ _ _ 89 (tkV (pkS st)) (0, 0) _ rfl HRf.out Tryz.underlying89 rfl sizeTk) rfl ?_
    exact ⟨rfl, HF.out, HG.out, H8.out⟩
theorem pRead_c (h : RdW w B q en L st) : Calls Tryz.prog 51 #[.pointer (some ⟨q, 0, none⟩)] w fun x w' => x = .returned (.agg (tkV (pkS st))) ∧ RdW w' B q en L (rdS st) ∧ w.grownBy w' (some q) := (pRead_x h).mono fun x w' h => ⟨h.1, h.2.1, h.2.2.1⟩
theorem pFail_8 (h : RdW w B q en L st) (e p : Int) (he : e ≠ 0) : Calls Tryz.prog 47 #[.pointer (some ⟨q, 0, none⟩), .int .i64 e, .int .i64 p] w fun x w' => x = .returned (.tuple #[]) ∧ RdW w' B q en L (failS e p st) ∧ w.grownBy w' (some q) ∧ C8 q w w' := (pFail_x h e p he).mono fun x w' k => by
 obtain ⟨A, n, c, C, m, d, ts, h1, _⟩ := h
 obtain ⟨k1, k2, k3, k4⟩ := k
 obtain ⟨_, _, _, _, _, h2⟩ := k4 _ _ _ _ _ _ _ _ _ _ h1
 exact ⟨k1, k2, k3, C8.rows h1 h2⟩
end
end Go.Proofs.YtheaepceghnkpaaGreatDoor

/- What the reader of package parse does with tokens (refuse, sees, sign, take, name, units), as contracts over memory. Condition: a reader that reads in memory. -/
namespace Go.Proofs.YtheaepceghnkpaaGreatDoor
open Go.RowKit Limb
set_option linter.unusedVariables false
section
variable {w : World} {B q en : Nat} {L : Lim} {st : St}
theorem RdW.tabs (h : RdW w B q en L st) : PTab w := by obtain ⟨_, _, _, _, _, _, _, _, _, _, _, _, _, h7, _⟩ := h; exact h7.1
theorem RdW.pk (h : RdW w B q en L st) : TkF (pkS st) := by
 obtain ⟨_, _, _, _, _, _, _, _, _, _, _, _, _, _, h8⟩ := h
 cases e : st.l with
 | nil => rw [pkS, e]; exact ⟨fun x hx => (by cases hx), by decide, fun h => (by cases h)⟩
 | cons t r => rw [pkS, e]; exact h8.1 t (by rw [e]; exact List.mem_cons_self)
theorem RdW.inv (h : RdW w B q en L st) : st.E ≠ 0 → st.l = [] := by
 obtain ⟨_, _, _, _, _, _, _, _, _, _, _, _, _, _, h8⟩ := h
 exact h8.2
theorem RdW.size (h : RdW w B q en L st) : ∃ A n c C m d, RowA w q 62 (rdC A n c en L st.E st.P C m d st.mad st.op) := by
 obtain ⟨A, n, c, C, m, d, ts, h1, _⟩ := h
 exact ⟨A, n, c, C, m, d, h1⟩
theorem fldTk (k : Int) (s : ByteArray) (a : Int) (W : World) : (Instr.field 89 (.agg #[.int .i64 k, .string s, .int .i64 a]) 0).run Tryz.prog W = .ok (.int .i64 k) W ∧ (Instr.field 89 (.agg #[.int .i64 k, .string s, .int .i64 a]) 1).run Tryz.prog W = .ok (.string s) W ∧ (Instr.field 89 (.agg #[.int .i64 k, .string s, .int .i64 a]) 2).run Tryz.prog W = .ok (.int .i64 a) W := ⟨by kernel_rfl, by kernel_rfl, by kernel_rfl⟩
theorem pPeek_t (h : RdW w B q en L st) {kd ap : Nat} {tx : List Nat} (hp : pkS st = (kd, tx, ap)) : Calls Tryz.prog 50 #[.pointer (some ⟨q, 0, none⟩)] w fun x w' => x = .returned (.agg #[.int .i64 (kd : Int), .string (strOf tx), .int .i64 (ap : Int)]) ∧ Below w.heap.size w w' := by
 have := pPeek_c h
 rw [hp] at this
 exact this
theorem pRead_tx (h : RdW w B q en L st) {kd ap : Nat} {tx : List Nat} (hp : pkS st = (kd, tx, ap)) : Calls Tryz.prog 51 #[.pointer (some ⟨q, 0, none⟩)] w fun x w' => x = .returned (.agg #[.int .i64 (kd : Int), .string (strOf tx), .int .i64 (ap : Int)]) ∧ RdW w' B q en L (rdS st) ∧ w.grownBy w' (some q) ∧ C8 q w w' := by
 have := pRead_x h
 rw [hp] at this
 exact this
theorem pRead_t (h : RdW w B q en L st) {kd ap : Nat} {tx : List Nat} (hp : pkS st = (kd, tx, ap)) : Calls Tryz.prog 51 #[.pointer (some ⟨q, 0, none⟩)] w fun x w' => x = .returned (.agg #[.int .i64 (kd : Int), .string (strOf tx), .int .i64 (ap : Int)]) ∧ RdW w' B q en L (rdS st) ∧ w.grownBy w' (some q) := by
 have := pRead_c h
 rw [hp] at this
 exact this
set_option maxHeartbeats 4000000 in
set_option maxRecDepth 100000 in
theorem pRefuse_x (h : RdW w B q en L st) : Calls Tryz.prog 29 #[.pointer (some ⟨q, 0, none⟩)] w fun x w' => x = .returned (.tuple #[]) ∧ RdW w' B q en L (refS en st) ∧ w.grownBy w' (some q) ∧ C8 q w w' := by
 obtain ⟨A, n, c, C, m, d, h1⟩ := h.size
 have c1 := h1.cell (k := 1) (v := .int .i64 (en : Int)) rfl
 have H := Lib.hid h
 clear h1 h
 cases e : st.l with
 | nil =>
  have hl : Hid (decide (0 < st.l.length) = false) := by show _ = _; rw [e]; rfl
  have HF := Lib.hid (pFail_8 H.out 12 (en : Int) (by decide))
  have hst : Hid (refS en st = failS 12 (en : Int) st) := by show _ = _; rw [refS, e]; rfl
  clear e
  go_enter Tryz.func29, Tryz.ntmps29
  go_wp2_with (first | (go_at_call 25; refine (pMore_c H.out).mono ?_; rintro e w1 ⟨rfl, rfl⟩; rw [hl.out]) | (go_at_call 47; refine HF.out.mono ?_; rintro e w2 ⟨rfl, h2, hg, h8⟩; have H2 := Lib.hid h2; have HG := Lib.hid hg; have HC := Lib.hid h8; clear h2 hg h8))
  go_end0
  rw [hst.out]
  exact ⟨rfl, H2.out, HG.out, HC.out⟩
 | cons t r =>
  have hl : Hid (decide (0 < st.l.length) = true) := by show _ = _; rw [e]; simp
  obtain ⟨kd, tx, ap⟩ := t
  have hp : Hid (pkS st = (kd, tx, ap)) := by show _ = _; rw [pkS, e]; rfl
  have hst : Hid (refS en st = failS 12 (ap : Int) st) := by show _ = _; rw [refS, e]; rfl
  have hfld := fun W => (fldTk (kd : Int) (strOf tx) (ap : Int) W).2.2
  clear e
  go_enter Tryz.func29, Tryz.ntmps29
  go_wp2_with (first | (go_at_call 25; refine (pMore_c H.out).mono ?_; rintro e w1 ⟨rfl, rfl⟩; rw [hl.out]) | (go_at_call 50; refine (pPeek_t H.out hp.out).mono ?_; rintro e w2 ⟨rfl, bn⟩; have H2 := Lib.hid (H.out.below bn); have HC2 := Lib.hid (C8.below bn H.out.lt); have HG2 := Lib.hid (gr_of bn (some q)); clear bn) | (go_at_call 47; refine (pFail_8 H2.out 12 (ap : Int) (by decide)).mono ?_; rintro e w3 ⟨rfl, h3, hg, h8⟩; have H3 := Lib.hid h3; have HG3 := Lib.hid (gr_trans HG2.out hg); have HC3 := Lib.hid (HC2.out.trans h8); clear h3 hg h8))
  go_end0
  rw [hst.out]
  exact ⟨rfl, H3.out, HG3.out, HC3.out⟩
theorem pRefuse_c (h : RdW w B q en L st) : Calls Tryz.prog 29 #[.pointer (some ⟨q, 0, none⟩)] w fun x w' => x = .returned (.tuple #[]) ∧ RdW w' B q en L (refS en st) ∧ w.grownBy w' (some q) := (pRefuse_x h).mono fun x w' h => ⟨h.1, h.2.1, h.2.2.1⟩
theorem next_pk (c : Nat) (l : List Tk) : nextT 3 [c] l = (decide ((pkL l).1 = 3) && decide ((pkL l).2.1 = [c])) := by
 cases l with
 | nil => rfl
 | cons t r => rfl
set_option maxHeartbeats 4000000 in
set_option maxRecDepth 100000 in
theorem pSees_c (h : RdW w B q en L st) (c : Nat) (hc : c < 256) (v : Bool) (hv : nextT 3 [c] st.l = v) : Calls Tryz.prog 77 #[.pointer (some ⟨q, 0, none⟩), .string (strOf [c])] w fun x w' => x = .returned (.bool v) ∧ Below w.heap.size w w' := by
 obtain ⟨⟨kd, tx, ap⟩, hp⟩ : ∃ t, t = pkS st := ⟨_, rfl⟩
 have hb := h.pk.1
 rw [← hp] at hb
 rw [next_pk, show pkL st.l = (kd, tx, ap) from hp.symm] at hv
 dsimp only at hv hb
 have H := Lib.hid h
 replace hp := Lib.hid hp.symm
 have et := str_beq hb (b := [c]) (fun x hx => by rw [List.mem_singleton.1 hx]; exact hc)
 generalize hS : strOf [c] = S at et ⊢
 generalize hT : strOf tx = T at et ⊢
 have HT := Lib.hid hT
 have key : ∀ w2, Below w.heap.size w w2 → Below w.heap.size w (w2.alloc (.cells #[.int .i64 (kd : Int), .string T, .int .i64 (ap : Int)] 89)) ∧ RowA (w2.alloc (.cells #[.int .i64 (kd : Int), .string T, .int .i64 (ap : Int)] 89)) w2.heap.size 89 #[.int .i64 (kd : Int), .string T, .int .i64 (ap : Int)] := fun w2 bn => ⟨below_two bn (below_new _ _), rowA_new _ _ _⟩
 have HK := Lib.hid key
 have HU := Lib.hid (fitsTk (kd : Int) T (ap : Int))
 clear h hS hT hb key
 by_cases h3 : kd = 3
 · have e3 : ((kd : Int) == 3) = true := by rw [h3]; rfl
   rw [decide_eq_true h3, Bool.true_and, ← et] at hv
   clear et
   cases v with
   | true =>
    clear h3
    go_enter Tryz.func77, Tryz.ntmps77
    go_wp2_with (first | (go_at_call 50; refine (pPeek_t H.out hp.out).mono ?_; rintro e w2 ⟨rfl, bn⟩; rw [HT.out]; have HB := Lib.hid (HK.out w2 bn).1; have HR := (HK.out w2 bn).2; have k0 := HR.cell (k := 0) (v := .int .i64 (kd : Int)) rfl; have k1 := HR.cell (k := 1) (v := .string T) rfl; clear HR bn) | (refine wpList_storeNew (by rfl) _ _ _ (by rfl) _ _ _ (by rfl) (by rfl) (by assumption) ?_; generalize w2.alloc (.cells #[.int .i64 (kd : Int), .string T, .int .i64 (ap : Int)] 89) = w3 at *))
    go_ret
    exact ⟨rfl, HB.out⟩
   | false =>
    clear h3
    go_enter Tryz.func77, Tryz.ntmps77
    go_wp2_with (first | (go_at_call 50; refine (pPeek_t H.out hp.out).mono ?_; rintro e w2 ⟨rfl, bn⟩; rw [HT.out]; have HB := Lib.hid (HK.out w2 bn).1; have HR := (HK.out w2 bn).2; have k0 := HR.cell (k := 0) (v := .int .i64 (kd : Int)) rfl; have k1 := HR.cell (k := 1) (v := .string T) rfl; clear HR bn) | (refine wpList_storeNew (by rfl) _ _ _ (by rfl) _ _ _ (by rfl) (by rfl) (by assumption) ?_; generalize w2.alloc (.cells #[.int .i64 (kd : Int), .string T, .int .i64 (ap : Int)] 89) = w3 at *))
    go_ret
    exact ⟨rfl, HB.out⟩
 · have e3 : ((kd : Int) == 3) = false := by rw [beq_eq_false_iff_ne]; omega
   rw [decide_eq_false h3, Bool.false_and] at hv
   subst hv
   clear h3 et
   go_enter Tryz.func77, Tryz.ntmps77
   go_wp2_with (first | (go_at_call 50; refine (pPeek_t H.out hp.out).mono ?_; rintro e w2 ⟨rfl, bn⟩; rw [HT.out]; have HB := Lib.hid (HK.out w2 bn).1; have HR := (HK.out w2 bn).2; have k0 := HR.cell (k := 0) (v := .int .i64 (kd : Int)) rfl; have k1 := HR.cell (k := 1) (v := .string T) rfl; clear HR bn) | (refine wpList_storeNew (by rfl) _ _ _ (by rfl) _ _ _ (by rfl) (by rfl) (by assumption) ?_; generalize w2.alloc (.cells #[.int .i64 (kd : Int), .string T, .int .i64 (ap : Int)] 89) = w3 at *))
   go_ret
   exact ⟨rfl, HB.out⟩
end
end Go.Proofs.YtheaepceghnkpaaGreatDoor

/- What the reader of package parse does with tokens (sign, take, name, units, isWord), as contracts over memory. Condition: a reader that reads in memory. -/
namespace Go.Proofs.YtheaepceghnkpaaGreatDoor
open Go.RowKit Limb
set_option linter.unusedVariables false
section
variable {w : World} {B q en : Nat} {L : Lim} {st : St}
set_option maxHeartbeats 4000000 in
set_option maxRecDepth 100000 in
theorem pSign_c (h : RdW w B q en L st) (c : Nat) (hc : c < 256) :
 Calls Tryz.prog 53 #[.pointer (some ⟨q, 0, none⟩), .string (strOf [c])] w fun x w' => x = .returned (.tuple #[]) ∧ RdW w' B q en L (sgnS en [c] st) ∧ w.grownBy w' (some q) := by
 have Hc := Lib.hid hc
 cases hv : nextT 3 [c] st.l with
 | true =>
  have H0 := Lib.hid h
  have G0 := Lib.hid (gr_of (Below.refl w.heap.size w) (some q))
  have Hv := Lib.hid hv
  clear hv hc
  clear h
  go_enter Tryz.func53, Tryz.ntmps53
  go_wp2_with fail
  refine (pSees_c H0.out c Hc.out _ Hv.out).mono ?_
  rintro e w1 ⟨rfl, bn⟩
  have H1 := Lib.hid (H0.out.below bn)
  have G1 := Lib.hid (gr_trans G0.out (gr_of bn (some q)))
  clear bn H0 G0
  go_wp2_with fail
  refine (pRead_c H1.out).mono ?_
  rintro e w2 ⟨rfl, h2, hg⟩
  have H2 := Lib.hid h2
  have G2 := Lib.hid (gr_trans G1.out hg)
  clear h2 hg H1 G1
  have hst : sgnS en [c] st = rdS (st) := by unfold sgnS needS; rw [Hv.out]; rfl
  go_wp2
  go_end0
  rw [hst]; exact ⟨rfl, H2.out, G2.out⟩
 | false =>
  have H0 := Lib.hid h
  have G0 := Lib.hid (gr_of (Below.refl w.heap.size w) (some q))
  have Hv := Lib.hid hv
  clear hv hc
  clear h
  go_enter Tryz.func53, Tryz.ntmps53
  go_wp2_with fail
  refine (pSees_c H0.out c Hc.out _ Hv.out).mono ?_
  rintro e w1 ⟨rfl, bn⟩
  have H1 := Lib.hid (H0.out.below bn)
  have G1 := Lib.hid (gr_trans G0.out (gr_of bn (some q)))
  clear bn H0 G0
  go_wp2_with fail
  refine (pRefuse_c H1.out).mono ?_
  rintro e w2 ⟨rfl, h2, hg⟩
  have H2 := Lib.hid h2
  have G2 := Lib.hid (gr_trans G1.out hg)
  clear h2 hg H1 G1
  go_wp2_with fail
  refine (pRead_c H2.out).mono ?_
  rintro e w3 ⟨rfl, h2, hg⟩
  have H3 := Lib.hid h2
  have G3 := Lib.hid (gr_trans G2.out hg)
  clear h2 hg H2 G2
  have hst : sgnS en [c] st = rdS (refS en st) := by unfold sgnS needS; rw [Hv.out]; rfl
  go_wp2
  go_end0
  rw [hst]; exact ⟨rfl, H3.out, G3.out⟩
set_option maxHeartbeats 4000000 in
set_option maxRecDepth 100000 in
theorem pTake_c (h : RdW w B q en L st) (kd : Nat) :
 Calls Tryz.prog 76 #[.pointer (some ⟨q, 0, none⟩), .int .i64 (kd : Int)] w fun x w' => x = .returned (.string (strOf (takX en kd st))) ∧ RdW w' B q en L (takS en kd st) ∧ w.grownBy w' (some q) := by
 obtain ⟨⟨k, t, a⟩, hp⟩ : ∃ t, t = pkS (st) := ⟨_, rfl⟩
 replace hp := Lib.hid hp.symm
 by_cases hk : k = kd
 · skip
   have H0 := Lib.hid h
   have G0 := Lib.hid (gr_of (Below.refl w.heap.size w) (some q))
   have e1 : ((k : Int) != (kd : Int)) = false := by rw [hk]; simp
   have hP : Hid (takP en kd st = st) := by show _ = _; unfold takP needS; rw [hp.out, if_pos (decide_eq_true hk)]
   have hfa := fun W => (fldTk (k : Int) (strOf t) (a : Int) W).1
   have hfb := fun W => (fldTk (k : Int) (strOf t) (a : Int) W).2.1
   clear hk
   clear h
   go_enter Tryz.func76, Tryz.ntmps76
   go_wp2_with fail
   refine (pPeek_t H0.out hp.out).mono ?_
   rintro e w1 ⟨rfl, bn⟩
   have H1 := Lib.hid (H0.out.below bn)
   have G1 := Lib.hid (gr_trans G0.out (gr_of bn (some q)))
   clear bn H0 G0
   go_wp2_with fail
   refine (pRead_t H1.out hp.out).mono ?_
   rintro e w2 ⟨rfl, h2, hg⟩
   have H2 := Lib.hid h2
   have G2 := Lib.hid (gr_trans G1.out hg)
   clear h2 hg H1 G1
   go_wp2
   go_ret
   refine ⟨?_, ?_, G2.out⟩
   · unfold takX; rw [hP.out, hp.out]; rfl
   · unfold takS; rw [hP.out]; exact H2.out
 · skip
   have H0 := Lib.hid h
   have G0 := Lib.hid (gr_of (Below.refl w.heap.size w) (some q))
   have e1 : ((k : Int) != (kd : Int)) = true := by simp; omega
   have hP : Hid (takP en kd st = refS en st) := by show _ = _; unfold takP needS; rw [hp.out, if_neg (by simpa using hk)]
   have hfa := fun W => (fldTk (k : Int) (strOf t) (a : Int) W).1
   obtain ⟨⟨k2, t2, a2⟩, hp2⟩ : ∃ t, t = pkS (refS en st) := ⟨_, rfl⟩
   replace hp2 := Lib.hid hp2.symm
   have hf2 := fun W => (fldTk (k2 : Int) (strOf t2) (a2 : Int) W).2.1
   clear hk
   clear h
   go_enter Tryz.func76, Tryz.ntmps76
   go_wp2_with fail
   refine (pPeek_t H0.out hp.out).mono ?_
   rintro e w1 ⟨rfl, bn⟩
   have H1 := Lib.hid (H0.out.below bn)
   have G1 := Lib.hid (gr_trans G0.out (gr_of bn (some q)))
   clear bn H0 G0
   go_wp2_with fail
   refine (pRefuse_c H1.out).mono ?_
   rintro e w2 ⟨rfl, h2, hg⟩
   have H2 := Lib.hid h2
   have G2 := Lib.hid (gr_trans G1.out hg)
   clear h2 hg H1 G1
   go_wp2_with fail
   refine (pRead_t H2.out hp2.out).mono ?_
   rintro e w3 ⟨rfl, h2, hg⟩
   have H3 := Lib.hid h2
   have G3 := Lib.hid (gr_trans G2.out hg)
   clear h2 hg H2 G2
   go_wp2
   go_ret
   refine ⟨?_, ?_, G3.out⟩
   · unfold takX; rw [hP.out, hp2.out]; rfl
   · unfold takS; rw [hP.out]; exact H3.out
set_option maxHeartbeats 4000000 in
set_option maxRecDepth 100000 in
theorem pName_c (h : RdW w B q en L st) :
 Calls Tryz.prog 52 #[.pointer (some ⟨q, 0, none⟩)] w fun x w' => x = .returned (.string (strOf (namX en st))) ∧ RdW w' B q en L (namS en st) ∧ w.grownBy w' (some q) := by
 obtain ⟨⟨k, t, a⟩, hp⟩ : ∃ t, t = pkS (st) := ⟨_, rfl⟩
 replace hp := Lib.hid hp.symm
 have hF := h.pk
 rw [hp.out] at hF
 have hT2 := h.tabs.1.2
 have hsz : (strOf t).size ≤ 9223372036854775807 := by rw [size_strOf]; have := hF.2.1; dsimp only at this; omega
 have hbt : bytesOf (strOf t) = t := bytesOf_strOf hF.1
 cases hv : isNam t with
 | true =>
  have H0 := Lib.hid h
  have G0 := Lib.hid (gr_of (Below.refl w.heap.size w) (some q))
  have hN : Hid (∀ W, NTab W → Calls Tryz.prog 75 #[.string (strOf t)] W fun e w' => e = .returned (.bool true) ∧ W = w') := fun W T => lkIsName_c (strOf t) hsz W T _ (by rw [hbt]; exact hv)
  have hP : Hid (namP en st = st) := by show _ = _; unfold namP needS; rw [hp.out]; dsimp only; rw [hv]; rfl
  have hfa := fun W => (fldTk (k : Int) (strOf t) (a : Int) W).2.1
  clear hv hsz hbt hF hT2
  clear h
  go_enter Tryz.func52, Tryz.ntmps52
  go_wp2_with fail
  refine (pPeek_t H0.out hp.out).mono ?_
  rintro e w1 ⟨rfl, bn⟩
  have H1 := Lib.hid (H0.out.below bn)
  have G1 := Lib.hid (gr_trans G0.out (gr_of bn (some q)))
  clear bn H0 G0
  go_wp2_with fail
  refine (hN.out _ H1.out.tabs.1.2).mono ?_
  rintro e w2 ⟨rfl, rfl⟩
  go_wp2_with fail
  refine (pTake_c H1.out 1).mono ?_
  rintro e w2 ⟨rfl, h2, hg⟩
  have H2 := Lib.hid h2
  have G2 := Lib.hid (gr_trans G1.out hg)
  clear h2 hg H1 G1
  go_wp2
  go_ret
  refine ⟨?_, ?_, G2.out⟩
  · unfold namX; rw [hP.out]; rfl
  · unfold namS; rw [hP.out]; exact H2.out
 | false =>
  have H0 := Lib.hid h
  have G0 := Lib.hid (gr_of (Below.refl w.heap.size w) (some q))
  have hN : Hid (∀ W, NTab W → Calls Tryz.prog 75 #[.string (strOf t)] W fun e w' => e = .returned (.bool false) ∧ W = w') := fun W T => lkIsName_c (strOf t) hsz W T _ (by rw [hbt]; exact hv)
  have hP : Hid (namP en st = refS en st) := by show _ = _; unfold namP needS; rw [hp.out]; dsimp only; rw [hv]; rfl
  have hfa := fun W => (fldTk (k : Int) (strOf t) (a : Int) W).2.1
  clear hv hsz hbt hF hT2
  clear h
  go_enter Tryz.func52, Tryz.ntmps52
  go_wp2_with fail
  refine (pPeek_t H0.out hp.out).mono ?_
  rintro e w1 ⟨rfl, bn⟩
  have H1 := Lib.hid (H0.out.below bn)
  have G1 := Lib.hid (gr_trans G0.out (gr_of bn (some q)))
  clear bn H0 G0
  go_wp2_with fail
  refine (hN.out _ H1.out.tabs.1.2).mono ?_
  rintro e w2 ⟨rfl, rfl⟩
  go_wp2_with fail
  refine (pRefuse_c H1.out).mono ?_
  rintro e w2 ⟨rfl, h2, hg⟩
  have H2 := Lib.hid h2
  have G2 := Lib.hid (gr_trans G1.out hg)
  clear h2 hg H1 G1
  go_wp2_with fail
  refine (pTake_c H2.out 1).mono ?_
  rintro e w3 ⟨rfl, h2, hg⟩
  have H3 := Lib.hid h2
  have G3 := Lib.hid (gr_trans G2.out hg)
  clear h2 hg H2 G2
  go_wp2
  go_ret
  refine ⟨?_, ?_, G3.out⟩
  · unfold namX; rw [hP.out]; rfl
  · unfold namS; rw [hP.out]; exact H3.out
set_option maxHeartbeats 4000000 in
set_option maxRecDepth 100000 in
theorem pUnits_c (h : RdW w B q en L st) :
 Calls Tryz.prog 79 #[.pointer (some ⟨q, 0, none⟩)] w fun x w' => x = .returned (.string (strOf (untX en st))) ∧ RdW w' B q en L (untS en st) ∧ w.grownBy w' (some q) := by
 obtain ⟨⟨k, t, a⟩, hp⟩ : ∃ t, t = pkS (st) := ⟨_, rfl⟩
 replace hp := Lib.hid hp.symm
 by_cases hk : k = 4
 · skip
   have H0 := Lib.hid h
   have G0 := Lib.hid (gr_of (Below.refl w.heap.size w) (some q))
   have e1 : ((k : Int) != 4) = false := by rw [hk]; rfl
   have hP : Hid ((pkS st).1 = 4) := by show _ = _; rw [hp.out]; exact hk
   have hfa := fun W => (fldTk (k : Int) (strOf t) (a : Int) W).1
   clear hk
   clear h
   go_enter Tryz.func79, Tryz.ntmps79
   go_wp2_with fail
   refine (pPeek_t H0.out hp.out).mono ?_
   rintro e w1 ⟨rfl, bn⟩
   have H1 := Lib.hid (H0.out.below bn)
   have G1 := Lib.hid (gr_trans G0.out (gr_of bn (some q)))
   clear bn H0 G0
   go_wp2_with fail
   refine (pTake_c H1.out 4).mono ?_
   rintro e w2 ⟨rfl, h2, hg⟩
   have H2 := Lib.hid h2
   have G2 := Lib.hid (gr_trans G1.out hg)
   clear h2 hg H1 G1
   go_wp2
   go_ret
   refine ⟨?_, ?_, G2.out⟩
   · unfold untX; rw [if_pos hP.out]; rfl
   · unfold untS; rw [if_pos hP.out]; exact H2.out
 · skip
   have H0 := Lib.hid h
   have G0 := Lib.hid (gr_of (Below.refl w.heap.size w) (some q))
   have e1 : ((k : Int) != 4) = true := by simp; omega
   have hP : Hid (¬ (pkS st).1 = 4) := by show ¬ _; rw [hp.out]; exact hk
   have hfa := fun W => (fldTk (k : Int) (strOf t) (a : Int) W).1
   clear hk
   clear h
   go_enter Tryz.func79, Tryz.ntmps79
   go_wp2_with fail
   refine (pPeek_t H0.out hp.out).mono ?_
   rintro e w1 ⟨rfl, bn⟩
   have H1 := Lib.hid (H0.out.below bn)
   have G1 := Lib.hid (gr_trans G0.out (gr_of bn (some q)))
   clear bn H0 G0
   go_wp2
   go_ret
   refine ⟨?_, ?_, G1.out⟩
   · unfold untX; rw [if_neg hP.out]; rfl
   · unfold untS; rw [if_neg hP.out]; exact H1.out
set_option maxHeartbeats 4000000 in
set_option maxRecDepth 100000 in
theorem pIsWord_c (k a : Nat) (t wd : List Nat) (ht : Bytes t) (hw : Bytes wd) (v : Bool) (hv : (decide (k = 1) && decide (t = wd)) = v) :
 Calls Tryz.prog 74 #[.agg #[.int .i64 (k : Int), .string (strOf t), .int .i64 (a : Int)], .string (strOf wd)] w fun x w' => x = .returned (.bool v) ∧ Below w.heap.size w w' := by
 have et := str_beq ht hw
 generalize strOf wd = S at et ⊢
 generalize strOf t = T at et ⊢
 have HB := Lib.hid (below_new w (.cells #[.int .i64 (k : Int), .string T, .int .i64 (a : Int)] 89))
 have HR := rowA_new w 89 #[.int .i64 (k : Int), .string T, .int .i64 (a : Int)]
 have k0 := HR.cell (k := 0) (v := .int .i64 (k : Int)) rfl
 have k1 := HR.cell (k := 1) (v := .string T) rfl
 clear HR ht hw
 by_cases h1 : k = 1
 · have e1 : ((k : Int) == 1) = true := by rw [h1]; rfl
   rw [decide_eq_true h1, Bool.true_and, ← et] at hv
   clear et h1
   cases v with
   | true =>
    go_enter Tryz.func74, Tryz.ntmps74
    go_wp2_with fail
    generalize w.alloc (.cells #[.int .i64 (k : Int), .string T, .int .i64 (a : Int)] 89) = w3 at *
    go_wp2
    go_ret
    exact ⟨rfl, HB.out⟩
   | false =>
    go_enter Tryz.func74, Tryz.ntmps74
    go_wp2_with fail
    generalize w.alloc (.cells #[.int .i64 (k : Int), .string T, .int .i64 (a : Int)] 89) = w3 at *
    go_wp2
    go_ret
    exact ⟨rfl, HB.out⟩
 · have e1 : ((k : Int) == 1) = false := by rw [beq_eq_false_iff_ne]; omega
   rw [decide_eq_false h1, Bool.false_and] at hv
   subst hv
   clear et h1
   go_enter Tryz.func74, Tryz.ntmps74
   go_wp2_with fail
   generalize w.alloc (.cells #[.int .i64 (k : Int), .string T, .int .i64 (a : Int)] 89) = w3 at *
   go_wp2
   go_ret
   exact ⟨rfl, HB.out⟩
end
end Go.Proofs.YtheaepceghnkpaaGreatDoor

/- What the reader of package parse does with a node. Condition: a reader that reads in memory. -/
namespace Go.Proofs.YtheaepceghnkpaaGreatDoor
open Go.RowKit Limb
set_option linter.unusedVariables false
section
variable {w : World} {B q en : Nat} {L : Lim} {st : St}
theorem wp_buildSliceM {P : Program} {o : Oper} {a : Act} {w : World} {K : Act → World → Prop} {Q : Exit → Act → World → Prop} (ty : TypeId) (len : Nat) (parts : Array (Nat × Operand)) (ho : o.op = .buildSlice ty len parts) (ps : List (Nat × Value)) (hp : parts.toList.map (fun p => (p.1, a.eval p.2)) = ps) (v : Value) (w' : World) (hr : Hid ((Instr.buildSlice ty len ps.toArray).run P w = .ok v w'))
 (h : K (a.put o.dst v) w') : o.wp P a w K Q := by
 have e : (parts.map fun (i, x) => (i, a.eval x)) = ps.toArray := by
  rw [← hp]
  apply Array.ext'
  simp
 unfold Oper.wp execOp
 simp only [ho, e, hr.out, Sem.run_bind, Sem.run_pure, Result.andThen_ok]
 exact h
theorem slice_node (x : Nd) (W : World) : (Instr.buildSlice 33 1 ([(0, .agg (ndV x))] : List (Nat × Value)).toArray).run Tryz.prog W = .ok (.slice (some ⟨W.heap.size, 0, none⟩) 1 1) (W.alloc (.cells (ndV x) 47)) := by kernel_rfl
theorem Kn.grown {B q m d : Nat} {C : Option Addr} {xs : List Value} {w w' : World} (h : OwnR w B 47 7 C m d xs) (hg : w.grownBy w' (Value.ownBlock (.slice C m d))) : Kn B q w w' :=
 ⟨hg.os, hg.tape, hg.output, hg.size, fun i hi hq hn => hg.block i hi fun e => by
   rcases h.2 with ⟨hv, _⟩ | ⟨g, cap, cur, hv, hB, hgc, _⟩
   · rw [hv] at e; cases e
   · rw [hv] at e
     have e3 : i = g := by injection e
     subst e3
     exact hn hB cur (0, 0) hgc⟩
def NoR (k : Nat) (C : Option Addr) (m d : Nat) (i : Nat) (wx wy : World) : Prop := if i = k then wx.grownBy wy (Value.ownBlock (.slice C m d)) else Below wx.heap.size wx wy
theorem NoR.of {k : Nat} {C : Option Addr} {m d i : Nat} {wx wy : World} (h : Below wx.heap.size wx wy) (hi : i ≠ k) : NoR k C m d i wx wy := by unfold NoR; rw [if_neg hi]; exact h
theorem NoR.row {k : Nat} {C : Option Addr} {m d i : Nat} {wx wy : World} (h : NoR k C m d i wx wy) {g : Nat} {T : TypeId} {V : Array Value} (r : RowA wx g T V) (hg : Value.ownBlock (.slice C m d) ≠ some g) : RowA wy g T V := by
 unfold NoR at h
 split at h
 · exact r.grown h hg
 · exact r.below h
def NoS (wS : World) (B q qx : Nat) (V X : Array Value) (C : Option Addr) (m d : Nat) (xs : List Value) (l : Nat → Bool) (wx : World) : Prop :=
 RowA wx q 62 V ∧ RowA wx qx 47 X ∧ wS.heap.size ≤ wx.heap.size ∧ Kn B q wS wx ∧ (l 7 = false → OwnR wx B 47 7 C m d xs)
theorem NoS.step {wS : World} {B q qx : Nat} {V X : Array Value} {C : Option Addr} {m d i : Nat} {xs : List Value} {l : Nat → Bool} {wx wy : World} (hq : Value.ownBlock (.slice C m d) ≠ some q) (hqx : Value.ownBlock (.slice C m d) ≠ some qx) (hl : l i = false) (hR : NoR 7 C m d i wx wy) (h : NoS wS B q qx V X C m d xs l wx) :
 NoS wS B q qx V X C m d xs (fun j => if j = i then true else l j) wy := by
 obtain ⟨h1, h2, h3, h4, h5⟩ := h
 by_cases hi : i = 7
 · subst hi
   have ho := h5 hl
   have hg := hR
   unfold NoR at hg
   rw [if_pos rfl] at hg
   exact ⟨h1.grown hg hq, h2.grown hg hqx, Nat.le_trans h3 hg.size, h4.trans (Kn.grown ho hg), fun e => by dsimp only at e; rw [if_pos rfl] at e; cases e⟩
 · have hg := hR
   unfold NoR at hg
   rw [if_neg hi] at hg
   exact ⟨h1.below hg, h2.below hg, Nat.le_trans h3 hg.size, h4.trans (Kn.below hg), fun e => by dsimp only at e; rw [if_neg (Ne.symm hi)] at e; exact (h5 e).below hg⟩
theorem rdC_nodes {w : World} {q en en2 : Nat} {L L2 : Lim} {A A2 C C2 : Option Addr} {n n2 c c2 m m2 d d2 : Nat} {E E2 P P2 mk mk2 op op2 : Int} (h : RowA w q 62 (rdC A n c en L E P C m d mk op)) (k : RowA w q 62 (rdC A2 n2 c2 en2 L2 E2 P2 C2 m2 d2 mk2 op2)) : C2 = C ∧ m2 = m ∧ d2 = d := by
 unfold RowA at h k
 rw [h] at k
 injection k with k
 injection k with k _ _
 have e := congrArg (fun V : Array Value => V[8]?) k
 simp only [List.getElem?_toArray, List.getElem?_cons_succ, List.getElem?_cons_zero, Option.some.injEq] at e
 injection e with e1 e2 e3
 exact ⟨e1.symm, e2.symm, e3.symm⟩
theorem nodP_mad (L : Lim) (p : Int) (st : St) : (nodP L p st).mad = st.mad := by
 unfold nodP failS
 split
 · split <;> rfl
 · rfl
theorem nodP_ts (L : Lim) (p : Int) (st : St) : (nodP L p st).ts = st.ts := by
 unfold nodP failS
 split
 · split <;> rfl
 · rfl
theorem nodP_E {L : Lim} {p : Int} {st : St} (h : (nodP L p st).E = 0) : st.E = 0 := by
 unfold nodP failS at h
 split at h
 · split at h
   · cases h
   · exact h
 · exact h
set_option maxHeartbeats 4000000 in
set_option maxRecDepth 100000 in
theorem pNode_c (h : RdW w B q en L st) (hB : B ≤ w.heap.size) (hfit : st.ts.length ≤ 1000000 ∧ st.mad ≤ 1000000) (x x2 : Nd) (hxp : x2.p = x.p) (hx : st.E = 0 → x = x2) :
 Calls Tryz.prog 96 #[.pointer (some ⟨q, 0, none⟩), .agg (ndV x)] w fun e w' => e = .returned (.tuple #[]) ∧ RdW w' B q en L (nodS L x2 st) ∧ Kn B q w w' := by
 obtain ⟨A0, n0, c0, C, m, d, ts0, r1, r2, r3, r4, r5, r6, r7, r8⟩ := id h
 have hox : Hid (Value.ownBlock (.slice C m d) ≠ some w.heap.size) := fun e => by have := (r3.2.lt _ e).2; omega
 have hlt := h.lt
 have bn := below_new w (.cells (ndV x) 47)
 have HX := rowA_new w 47 (ndV x)
 have H1 := Lib.hid (h.below bn)
 have K1 := Lib.hid (Kn.below (B := B) (q := q) bn)
 have R1 := r1.below bn
 obtain ⟨qx, hqx⟩ : ∃ g, g = w.heap.size := ⟨_, rfl⟩
 rw [← hqx] at HX hox
 have Hqx := Lib.hid hqx
 have Hlt := Lib.hid hlt
 have HBw := Lib.hid hB
 have HFt := Lib.hid hfit
 have HX := Lib.hid HX
 have HU := Lib.hid (fitsNd x x)
 have R1 := Lib.hid R1
 have HE0 := Lib.hid hx
 clear h bn hlt hB hfit r1 r2 r3 r4 r5 r6 r7 r8 hx
 go_enter Tryz.func96, Tryz.ntmps96
 go_wp2_with fail
 rw [← hqx]
 clear hqx
 generalize w.alloc (.cells (ndV x) 47) = w1 at *
 have k9 := R1.out.cell (k := 9) (v := .int .i64 (st.mad : Int)) rfl
 have k4 := R1.out.cell (k := 4) (v := .int .i64 (L.nodes : Int)) rfl
 by_cases hmk : st.mad = L.nodes
 · have e1 : ((st.mad : Int) == (L.nodes : Int)) = true := by rw [hmk]; simp
   have y9 := R1.out.drew.cell (k := 9) (v := .int .i64 (st.mad : Int)) rfl
   have kx := HX.out.cell (k := 6) (v := .int .i64 x.p) rfl
   have hP : Hid (nodP L x.p st = failS 2 x.p st) := by show _ = _; unfold nodP; rw [if_pos hmk]
   clear hmk
   go_quiet (fail)
   have bq := below_drewN (Below.refl w1.heap.size w1) nq
   have H2 := Lib.hid (H1.out.below bq)
   have K2 := Lib.hid (K1.out.trans (Kn.below (B := B) (q := q) bq))
   have R2 := Lib.hid (R1.out.below bq)
   have X2 := Lib.hid (HX.out.below bq)
   generalize w1.drewN nq = w2 at *
   have kx := X2.out.cell (k := 6) (v := .int .i64 x.p) rfl
   clear k9 k4 y9 bq H1 K1 R1 HX
   go_wp2_with fail
   refine (pFail_x H2.out 2 x.p (by decide)).mono ?_
   rintro e wB ⟨rfl, hS, hg, hx9⟩
   obtain ⟨A5, n5, c5, E5, P5, hRB⟩ := hx9 _ _ _ _ _ _ _ _ _ _ R2.out
   have HS : Hid (RdW wB B q en L (nodP L x.p st)) := by show RdW _ _ _ _ _ _; rw [hP.out]; exact hS
   have KB := Lib.hid (K2.out.trans (Kn.of (B := B) hg))
   have HXb : Hid (RowA wB qx 47 (ndV x)) := X2.out.grown hg (fun e => by injection e with e; have := Hqx.out; have := Hlt.out; omega)
   have RB := Lib.hid hRB
   clear hS hg hx9 hRB H2 K2 R2 X2 kx hP
   obtain ⟨A, n, c, C2, m2, d2, ts, h1, h2, h3, h4, h5, h6, h7, h8⟩ := id HS.out
   obtain ⟨rfl, rfl, rfl⟩ := rdC_nodes h1 RB.out
   have hmd : (nodP L x.p st).mad = st.mad := nodP_mad L x.p st
   rw [hmd] at h1
   generalize hE9 : (nodP L x.p st).E = E9 at h1 h5
   generalize hP9 : (nodP L x.p st).P = P9 at h1
   generalize ho9 : (nodP L x.p st).op = op9 at h1
   have hm6 : Hid (m ≤ 1000000) := by show _ ≤ _; rw [h3.1, h4, (nodP_ts L x.p st)]; exact HFt.out.1
   have hk6 : (st.mad : Int) ≤ 1000000 := by have := HFt.out.2; omega
   have hoq := Lib.hid (h3.2.differ h1 tr_ne_tn)
   have k9 := h1.cell (k := 9) (v := .int .i64 (st.mad : Int)) rfl
   have f9 := h1.free 9
   have HR := Lib.hid (h1.set 9 (.int .i64 ((st.mad : Int) + 1)))
   have hg9 := grown_set wB q 9 (.int .i64 ((st.mad : Int) + 1))
   have HK := Lib.hid (KB.out.trans (Kn.of hg9))
   have HOt := Lib.hid (h3.q h1 hg9)
   have HO := Lib.hid HOt.out.2
   have HX2 := Lib.hid (HXb.out.far (show q ≠ qx by have := Hqx.out; have := Hlt.out; omega) 9 (.int .i64 ((st.mad : Int) + 1)))
   have hBS : Hid (B ≤ (wB.setCell ⟨q, 9, none⟩ (.int .i64 ((st.mad : Int) + 1))).heap.size) := by show _ ≤ _; rw [World.size_setCell]; have := KB.out.size; have := HBw.out; omega
   have HTok := Lib.hid (h2.kn (Kn.of (B := B) hg9) h1)
   have HTb := Lib.hid (h7.kn (Kn.of hg9) h6)
   have H45 := Lib.hid (And.intro h4 h5)
   have H68 := Lib.hid (And.intro h6 h8)
   have HEP : Hid ((nodP L x.p st).E = E9 ∧ (nodP L x.p st).P = P9 ∧ (nodP L x.p st).op = op9) := ⟨hE9, hP9, ho9⟩
   have Hmd := Lib.hid hmd
   have h0q : (0 : Int) ≤ (st.mad : Int) := by omega
   clear h1 h2 h3 h4 h5 h6 h7 h8 hg9 HS KB HXb RB hE9 hP9 ho9 hmd
   go_wp2_with fail
   generalize wB.setCell ⟨q, 9, none⟩ (.int .i64 ((st.mad : Int) + 1)) = wS at *
   clear k9 f9 h0q hk6
   refine region_freeS 10 1 [some 25, some 26, some 27, some 28, some 29, some 30, some 31, some 32, some 33, some 34] ?aFq1 (NoR 7 C m d) (NoS wS B q qx (rdC A n c en L E9 P9 C m d ((st.mad : Int) + 1) (op9 : Int)) (ndV x) C m d (ndCells ts)) (fun k vv wx => match k with
    | 0 => vv = .pointer (some ⟨q, 0, none⟩)
    | 1 => vv = .pointer (some ⟨q, 0, none⟩)
    | 2 => vv = .pointer (some ⟨q, 0, none⟩)
    | 3 => vv = .pointer (some ⟨q, 8, none⟩)
    | 4 => vv = .slice C m d
    | 5 => vv = .agg (ndV x)
    | 6 => ∃ g, vv = .slice (some ⟨g, 0, none⟩) 1 1 ∧ RowA wx g 47 (ndV x) ∧ wS.heap.size ≤ g
    | 7 => ∃ A2 c2, vv = .slice A2 (m + 1) c2 ∧ OwnR wx B 47 7 A2 (m + 1) c2 (ndCells ts ++ (ndV x).toList)
    | 8 => vv = .pointer (some ⟨q, 0, none⟩)
    | _ => vv = .pointer (some ⟨q, 8, none⟩))
    (by kernel_rfl) ?haFq1 rfl (by kernel_rfl) (by kernel_rfl) (fun _ _ _ _ _ h => h) ?hSbq1 ?hPbq1 ?hSq1 ?hopq1 ?hfinq1
   case haFq1 =>
    intro vals
    simp only [fillAll, dAt, Act.put, List.setIfInBounds_toArray, List.set_cons_zero, List.set_cons_succ]
    exact rfl
   case hSbq1 => exact fun i l wx wy hi hl hR h => NoS.step hoq.out hox.out hl hR h
   case hPbq1 =>
    intro k j v wa wb hk hkj hb h
    match j, h with
    | 0, h => exact h
    | 1, h => exact h
    | 2, h => exact h
    | 3, h => exact h
    | 4, h => exact h
    | 5, h => exact h
    | 6, ⟨g, e1, g1, g2⟩ => exact ⟨g, e1, hb.row g1 (fun e => by have := (HO.out.lt g e).2; omega), g2⟩
    | 7, ⟨A2, c2, e1, g1⟩ =>
     unfold NoR at hb
     rw [if_neg (by omega)] at hb
     exact ⟨A2, c2, e1, g1.below hb⟩
    | 8, h => exact h
    | _ + 9, h => exact h
   case hSq1 => exact ⟨HR.out, HX2.out, Nat.le_refl _, Kn.below (Below.refl _ _).drew, fun _ => HO.out⟩
   case hopq1 =>
    refine .cons (k := 0) ?_ (.cons (k := 1) ?_ (.cons (k := 2) ?_ (.cons (k := 3) ?_ (.cons (k := 4) ?_ (.cons (k := 5) ?_ (.cons (k := 6) ?_ (.cons (k := 7) ?_ (.cons (k := 8) ?_ (.cons (k := 9) ?_ (.nil))))))))))
    all_goals intro vals wr l hl hS hd KC hKx
    all_goals (show Oper.wp _ _ _ _ _ _; dsimp only)
    · go_simp
      refine hKx _ _ rfl (NoR.of (Below.refl _ _) (by decide)) (by first | rfl | simp)
    · go_simp
      refine hKx _ _ rfl (NoR.of (Below.refl _ _) (by decide)) (by first | rfl | simp)
    · have d1 : vals 1 = _ := hd 1 (by decide +kernel)
      rw [d1]
      go_simp
      refine hKx _ _ rfl (NoR.of (Below.refl _ _) (by decide)) (by first | rfl | simp)
    · have d2 : vals 2 = _ := hd 2 (by decide +kernel)
      rw [d2]
      go_simp
      refine hKx _ _ rfl (NoR.of (Below.refl _ _) (by decide)) (by first | rfl | simp)
    · have d3 : vals 3 = _ := hd 3 (by decide +kernel)
      rw [d3]
      have z0 := hS.1.cell (k := 8) rfl
      go_simp
      refine hKx _ _ rfl (NoR.of (Below.refl _ _) (by decide)) (by first | rfl | simp)
    · refine wp_loadV 47 _ rfl qx 0 rfl (ndV x) (Lib.hid hS.2.1.inV) (Lib.hid (manyN x)) ?_
      refine hKx _ _ rfl (NoR.of (Below.refl _ _) (by decide)) (by first | rfl | simp)
    · have d5 : vals 5 = _ := hd 5 (by decide +kernel)
      rw [d5]
      refine wp_buildSliceM _ _ _ rfl _ (by rfl) _ _ (Lib.hid (slice_node x wr)) ?_
      refine hKx _ _ rfl (NoR.of (below_new _ _) (by decide)) ⟨_, rfl, rowA_new wr _ _, hS.2.2.1⟩
    · have d4 : vals 4 = _ := hd 4 (by decide +kernel)
      obtain ⟨g, d6, g1, g2⟩ := hd 6 (by decide +kernel)
      rw [d4, d6]
      have HOx := Lib.hid (hS.2.2.2.2 hl)
      have HYx : Hid (RowA wr g 47 (ndV x) ∧ (ndV x).size = 7 ∧ ∀ v ∈ ndV x, v.oneCell' = true) := ⟨g1, rfl, ndV_one x⟩
      have HEx : Hid (m ≤ 1000000 ∧ B ≤ wr.heap.size) := ⟨hm6.out, Nat.le_trans hBS.out hS.2.2.1⟩
      refine wp_append_one _ _ 33 rfl B 47 7 nds_elem C m d (ndCells ts) rfl HOx g rfl 47 (ndV x) HYx HEx ?_
      intro A2 c2 w2 hO2 hg2
      refine hKx _ _ rfl (by unfold NoR; rw [if_pos rfl]; exact hg2.out) ⟨A2, c2, rfl, hO2.out⟩
    · have d0 : vals 0 = _ := hd 0 (by decide +kernel)
      rw [d0]
      go_simp
      refine hKx _ _ rfl (NoR.of (Below.refl _ _) (by decide)) (by first | rfl | simp)
    · have d8 : vals 8 = _ := hd 8 (by decide +kernel)
      rw [d8]
      go_simp
      refine hKx _ _ rfl (NoR.of (Below.refl _ _) (by decide)) (by first | rfl | simp)
   case hfinq1 =>
    intro vals wr l hl hS hP
    obtain ⟨A2, c2, ez_7, hO7⟩ := hP 7 (by decide)
    have ez_9 : vals 9 = _ := hP 9 (by decide)
    have c0x := hS.1.cell (k := 8) rfl
    have f0x := hS.1.free 8
    have hR2 := Lib.hid (hS.1.set 8 (.slice A2 (m + 1) c2))
    have hK2 := Lib.hid (hS.2.2.2.1.trans (Kn.of (grown_set wr q 8 (.slice A2 (m + 1) c2))))
    have hO2 := Lib.hid (hO7.over (grown_set wr q 8 (.slice A2 (m + 1) c2)) (fun g e => by cases e; exact hO7.differ hS.1 tr_ne_tn))
    clear hS hP hO7 hl
    try dsimp only
    rw [ez_7, ez_9]
    clear ez_7 ez_9
    refine wpAny_ready (rs := [10]) (by kernel_rfl) (by simp) (AllReady.cons rfl (fun KC hKC => ?_) AllReady.nil)
    go_simp
    refine hKC _ _ ?_
    clear hKC KC c0x f0x
    refine wpAny_done (by kernel_rfl) ?_ _
    generalize wr.setCell ⟨q, 8, none⟩ (.slice A2 (m + 1) c2) = wN at *
    have hEst : (addS x2 (nodP L x.p st)).E = 0 → st.E = 0 := fun e => nodP_E e
    have hst : nodS L x2 st = addS x2 (nodP L x.p st) := by unfold nodS; rw [hxp]
    have hK3 := HK.out.trans hK2.out
    have hfin : RdW wN B q en L (nodS L x2 st) := by
     rw [hst]
     refine ⟨A, n, c, A2, m + 1, c2, ts ++ [x], ?_, ?_, ⟨?_, ?_⟩, ?_, ?_, H68.out.1, ?_, H68.out.2⟩
     · have h9 := hR2.out
       show RowA _ _ _ (rdC A n c en L (nodP L x.p st).E (nodP L x.p st).P A2 (m + 1) c2 (((nodP L x.p st).mad + 1 : Nat) : Int) (((nodP L x.p st).op : Nat) : Int))
       rw [HEP.out.1, HEP.out.2.1, HEP.out.2.2, Hmd.out]
       exact h9
     · exact HTok.out.kn hK2.out HR.out
     · rw [List.length_append, ← HOt.out.1]; rfl
     · rw [ndCells_snoc]; exact hO2.out
     · show _ = ((nodP L x.p st).ts ++ [x2]).length
       rw [List.length_append, List.length_append, H45.out.1]; rfl
     · intro e
       have e2 : E9 = 0 := HEP.out.1.symm.trans e
       show _ = (nodP L x.p st).ts ++ [x2]
       rw [H45.out.2 e2, HE0.out (hEst e)]
     · exact HTb.out.kn hK2.out H68.out.1
    go_wp2
    go_end0
    exact ⟨rfl, hfin, hK3⟩
 · have e1 : ((st.mad : Int) == (L.nodes : Int)) = false := by rw [beq_eq_false_iff_ne]; omega
   have hP : Hid (nodP L x.p st = st) := by show _ = _; unfold nodP; rw [if_neg hmk]
   clear hmk
   go_quiet (fail)
   have bq := below_drewN (Below.refl w1.heap.size w1) nq
   have HS : Hid (RdW (w1.drewN nq) B q en L (nodP L x.p st)) := by show RdW _ _ _ _ _ _; rw [hP.out]; exact H1.out.below bq
   have KB := Lib.hid (K1.out.trans (Kn.below (B := B) (q := q) bq))
   have RB := Lib.hid (R1.out.below bq)
   have HXb := Lib.hid (HX.out.below bq)
   generalize w1.drewN nq = wB at *
   clear k9 k4 bq H1 K1 R1 HX hP
   obtain ⟨A, n, c, C2, m2, d2, ts, h1, h2, h3, h4, h5, h6, h7, h8⟩ := id HS.out
   obtain ⟨rfl, rfl, rfl⟩ := rdC_nodes h1 RB.out
   have hmd : (nodP L x.p st).mad = st.mad := nodP_mad L x.p st
   rw [hmd] at h1
   generalize hE9 : (nodP L x.p st).E = E9 at h1 h5
   generalize hP9 : (nodP L x.p st).P = P9 at h1
   generalize ho9 : (nodP L x.p st).op = op9 at h1
   have hm6 : Hid (m ≤ 1000000) := by show _ ≤ _; rw [h3.1, h4, (nodP_ts L x.p st)]; exact HFt.out.1
   have hk6 : (st.mad : Int) ≤ 1000000 := by have := HFt.out.2; omega
   have hoq := Lib.hid (h3.2.differ h1 tr_ne_tn)
   have k9 := h1.cell (k := 9) (v := .int .i64 (st.mad : Int)) rfl
   have f9 := h1.free 9
   have HR := Lib.hid (h1.set 9 (.int .i64 ((st.mad : Int) + 1)))
   have hg9 := grown_set wB q 9 (.int .i64 ((st.mad : Int) + 1))
   have HK := Lib.hid (KB.out.trans (Kn.of hg9))
   have HOt := Lib.hid (h3.q h1 hg9)
   have HO := Lib.hid HOt.out.2
   have HX2 := Lib.hid (HXb.out.far (show q ≠ qx by have := Hqx.out; have := Hlt.out; omega) 9 (.int .i64 ((st.mad : Int) + 1)))
   have hBS : Hid (B ≤ (wB.setCell ⟨q, 9, none⟩ (.int .i64 ((st.mad : Int) + 1))).heap.size) := by show _ ≤ _; rw [World.size_setCell]; have := KB.out.size; have := HBw.out; omega
   have HTok := Lib.hid (h2.kn (Kn.of (B := B) hg9) h1)
   have HTb := Lib.hid (h7.kn (Kn.of hg9) h6)
   have H45 := Lib.hid (And.intro h4 h5)
   have H68 := Lib.hid (And.intro h6 h8)
   have HEP : Hid ((nodP L x.p st).E = E9 ∧ (nodP L x.p st).P = P9 ∧ (nodP L x.p st).op = op9) := ⟨hE9, hP9, ho9⟩
   have Hmd := Lib.hid hmd
   have h0q : (0 : Int) ≤ (st.mad : Int) := by omega
   clear h1 h2 h3 h4 h5 h6 h7 h8 hg9 HS KB HXb RB hE9 hP9 ho9 hmd
   go_wp2_with fail
   generalize wB.setCell ⟨q, 9, none⟩ (.int .i64 ((st.mad : Int) + 1)) = wS at *
   clear k9 f9 h0q hk6
   refine region_freeS 10 1 [some 25, some 26, some 27, some 28, some 29, some 30, some 31, some 32, some 33, some 34] ?aFq0 (NoR 7 C m d) (NoS wS B q qx (rdC A n c en L E9 P9 C m d ((st.mad : Int) + 1) (op9 : Int)) (ndV x) C m d (ndCells ts)) (fun k vv wx => match k with
    | 0 => vv = .pointer (some ⟨q, 0, none⟩)
    | 1 => vv = .pointer (some ⟨q, 0, none⟩)
    | 2 => vv = .pointer (some ⟨q, 0, none⟩)
    | 3 => vv = .pointer (some ⟨q, 8, none⟩)
    | 4 => vv = .slice C m d
    | 5 => vv = .agg (ndV x)
    | 6 => ∃ g, vv = .slice (some ⟨g, 0, none⟩) 1 1 ∧ RowA wx g 47 (ndV x) ∧ wS.heap.size ≤ g
    | 7 => ∃ A2 c2, vv = .slice A2 (m + 1) c2 ∧ OwnR wx B 47 7 A2 (m + 1) c2 (ndCells ts ++ (ndV x).toList)
    | 8 => vv = .pointer (some ⟨q, 0, none⟩)
    | _ => vv = .pointer (some ⟨q, 8, none⟩))
    (by kernel_rfl) ?haFq0 rfl (by kernel_rfl) (by kernel_rfl) (fun _ _ _ _ _ h => h) ?hSbq0 ?hPbq0 ?hSq0 ?hopq0 ?hfinq0
   case haFq0 =>
    intro vals
    simp only [fillAll, dAt, Act.put, List.setIfInBounds_toArray, List.set_cons_zero, List.set_cons_succ]
    exact rfl
   case hSbq0 => exact fun i l wx wy hi hl hR h => NoS.step hoq.out hox.out hl hR h
   case hPbq0 =>
    intro k j v wa wb hk hkj hb h
    match j, h with
    | 0, h => exact h
    | 1, h => exact h
    | 2, h => exact h
    | 3, h => exact h
    | 4, h => exact h
    | 5, h => exact h
    | 6, ⟨g, e1, g1, g2⟩ => exact ⟨g, e1, hb.row g1 (fun e => by have := (HO.out.lt g e).2; omega), g2⟩
    | 7, ⟨A2, c2, e1, g1⟩ =>
     unfold NoR at hb
     rw [if_neg (by omega)] at hb
     exact ⟨A2, c2, e1, g1.below hb⟩
    | 8, h => exact h
    | _ + 9, h => exact h
   case hSq0 => exact ⟨HR.out, HX2.out, Nat.le_refl _, Kn.below (Below.refl _ _).drew, fun _ => HO.out⟩
   case hopq0 =>
    refine .cons (k := 0) ?_ (.cons (k := 1) ?_ (.cons (k := 2) ?_ (.cons (k := 3) ?_ (.cons (k := 4) ?_ (.cons (k := 5) ?_ (.cons (k := 6) ?_ (.cons (k := 7) ?_ (.cons (k := 8) ?_ (.cons (k := 9) ?_ (.nil))))))))))
    all_goals intro vals wr l hl hS hd KC hKx
    all_goals (show Oper.wp _ _ _ _ _ _; dsimp only)
    · go_simp
      refine hKx _ _ rfl (NoR.of (Below.refl _ _) (by decide)) (by first | rfl | simp)
    · go_simp
      refine hKx _ _ rfl (NoR.of (Below.refl _ _) (by decide)) (by first | rfl | simp)
    · have d1 : vals 1 = _ := hd 1 (by decide +kernel)
      rw [d1]
      go_simp
      refine hKx _ _ rfl (NoR.of (Below.refl _ _) (by decide)) (by first | rfl | simp)
    · have d2 : vals 2 = _ := hd 2 (by decide +kernel)
      rw [d2]
      go_simp
      refine hKx _ _ rfl (NoR.of (Below.refl _ _) (by decide)) (by first | rfl | simp)
    · have d3 : vals 3 = _ := hd 3 (by decide +kernel)
      rw [d3]
      have z0 := hS.1.cell (k := 8) rfl
      go_simp
      refine hKx _ _ rfl (NoR.of (Below.refl _ _) (by decide)) (by first | rfl | simp)
    · refine wp_loadV 47 _ rfl qx 0 rfl (ndV x) (Lib.hid hS.2.1.inV) (Lib.hid (manyN x)) ?_
      refine hKx _ _ rfl (NoR.of (Below.refl _ _) (by decide)) (by first | rfl | simp)
    · have d5 : vals 5 = _ := hd 5 (by decide +kernel)
      rw [d5]
      refine wp_buildSliceM _ _ _ rfl _ (by rfl) _ _ (Lib.hid (slice_node x wr)) ?_
      refine hKx _ _ rfl (NoR.of (below_new _ _) (by decide)) ⟨_, rfl, rowA_new wr _ _, hS.2.2.1⟩
    · have d4 : vals 4 = _ := hd 4 (by decide +kernel)
      obtain ⟨g, d6, g1, g2⟩ := hd 6 (by decide +kernel)
      rw [d4, d6]
      have HOx := Lib.hid (hS.2.2.2.2 hl)
      have HYx : Hid (RowA wr g 47 (ndV x) ∧ (ndV x).size = 7 ∧ ∀ v ∈ ndV x, v.oneCell' = true) := ⟨g1, rfl, ndV_one x⟩
      have HEx : Hid (m ≤ 1000000 ∧ B ≤ wr.heap.size) := ⟨hm6.out, Nat.le_trans hBS.out hS.2.2.1⟩
      refine wp_append_one _ _ 33 rfl B 47 7 nds_elem C m d (ndCells ts) rfl HOx g rfl 47 (ndV x) HYx HEx ?_
      intro A2 c2 w2 hO2 hg2
      refine hKx _ _ rfl (by unfold NoR; rw [if_pos rfl]; exact hg2.out) ⟨A2, c2, rfl, hO2.out⟩
    · have d0 : vals 0 = _ := hd 0 (by decide +kernel)
      rw [d0]
      go_simp
      refine hKx _ _ rfl (NoR.of (Below.refl _ _) (by decide)) (by first | rfl | simp)
    · have d8 : vals 8 = _ := hd 8 (by decide +kernel)
      rw [d8]
      go_simp
      refine hKx _ _ rfl (NoR.of (Below.refl _ _) (by decide)) (by first | rfl | simp)
   case hfinq0 =>
    intro vals wr l hl hS hP
    obtain ⟨A2, c2, ez_7, hO7⟩ := hP 7 (by decide)
    have ez_9 : vals 9 = _ := hP 9 (by decide)
    have c0x := hS.1.cell (k := 8) rfl
    have f0x := hS.1.free 8
    have hR2 := Lib.hid (hS.1.set 8 (.slice A2 (m + 1) c2))
    have hK2 := Lib.hid (hS.2.2.2.1.trans (Kn.of (grown_set wr q 8 (.slice A2 (m + 1) c2))))
    have hO2 := Lib.hid (hO7.over (grown_set wr q 8 (.slice A2 (m + 1) c2)) (fun g e => by cases e; exact hO7.differ hS.1 tr_ne_tn))
    clear hS hP hO7 hl
    try dsimp only
    rw [ez_7, ez_9]
    clear ez_7 ez_9
    refine wpAny_ready (rs := [10]) (by kernel_rfl) (by simp) (AllReady.cons rfl (fun KC hKC => ?_) AllReady.nil)
    go_simp
    refine hKC _ _ ?_
    clear hKC KC c0x f0x
    refine wpAny_done (by kernel_rfl) ?_ _
    generalize wr.setCell ⟨q, 8, none⟩ (.slice A2 (m + 1) c2) = wN at *
    have hEst : (addS x2 (nodP L x.p st)).E = 0 → st.E = 0 := fun e => nodP_E e
    have hst : nodS L x2 st = addS x2 (nodP L x.p st) := by unfold nodS; rw [hxp]
    have hK3 := HK.out.trans hK2.out
    have hfin : RdW wN B q en L (nodS L x2 st) := by
     rw [hst]
     refine ⟨A, n, c, A2, m + 1, c2, ts ++ [x], ?_, ?_, ⟨?_, ?_⟩, ?_, ?_, H68.out.1, ?_, H68.out.2⟩
     · have h9 := hR2.out
       show RowA _ _ _ (rdC A n c en L (nodP L x.p st).E (nodP L x.p st).P A2 (m + 1) c2 (((nodP L x.p st).mad + 1 : Nat) : Int) (((nodP L x.p st).op : Nat) : Int))
       rw [HEP.out.1, HEP.out.2.1, HEP.out.2.2, Hmd.out]
       exact h9
     · exact HTok.out.kn hK2.out HR.out
     · rw [List.length_append, ← HOt.out.1]; rfl
     · rw [ndCells_snoc]; exact hO2.out
     · show _ = ((nodP L x.p st).ts ++ [x2]).length
       rw [List.length_append, List.length_append, H45.out.1]; rfl
     · intro e
       have e2 : E9 = 0 := HEP.out.1.symm.trans e
       show _ = (nodP L x.p st).ts ++ [x2]
       rw [H45.out.2 e2, HE0.out (hEst e)]
     · exact HTb.out.kn hK2.out H68.out.1
    go_wp2
    go_end0
    exact ⟨rfl, hfin, hK3⟩
end
end Go.Proofs.YtheaepceghnkpaaGreatDoor

/- What the reader of package parse does: last, joinKind, open. Condition: a reader that reads in memory. -/
namespace Go.Proofs.YtheaepceghnkpaaGreatDoor
open Go.RowKit Limb
set_option linter.unusedVariables false
section
variable {w : World} {B q en : Nat} {L : Lim} {st : St}
set_option maxHeartbeats 4000000 in
set_option maxRecDepth 100000 in
theorem pLast_c (h : RdW w B q en L st) :
 Calls Tryz.prog 95 #[.pointer (some ⟨q, 0, none⟩)] w fun x w' => x = .returned (.int .i64 (lastS st)) ∧ w' = w := by
 obtain ⟨A, n, c, C, m, d, ts, h1, h2, h3, h4, _⟩ := h
 have c8 := h1.cell (k := 8) (v := .slice C m d) rfl
 have hv : lastS st = (m : Int) - 1 := by unfold lastS; rw [← h4, ← h3.1]
 have hm : (m : Int) ≤ 9223372036854775807 := by have := h3.2.caps; unfold maxLen at this; omega
 rw [hv]
 clear h1 h2 h3 h4 hv
 go_enter Tryz.func95, Tryz.ntmps95
 go_wp2
 go_ret
 exact ⟨rfl, rfl⟩
set_option maxHeartbeats 4000000 in
set_option maxRecDepth 100000 in
theorem pJoinKind_c (t : List Nat) (ht : Bytes t) (w : World) :
 Calls Tryz.prog 97 #[.string (strOf t)] w fun x w' => x = .returned (.int .i64 (joiN t)) ∧ w' = w := by
 have e0 := str_beq ht (b := [43]) (fun x hx => by rw [List.mem_singleton.1 hx]; decide)
 rw [toList_strOf [43], show ([43] : List Nat).map UInt8.ofNat = [43] from rfl] at e0
 by_cases g0 : t = [43]
 · rw [decide_eq_true g0] at e0
   have hv : Hid (joiN t = 3) := by show _ = _; rw [g0]; rfl
   clear g0
   generalize strOf t = T at *
   go_enter Tryz.func97, Tryz.ntmps97
   go_wp2
   go_ret
   exact ⟨by rw [hv.out]; rfl, rfl⟩
 · rw [decide_eq_false g0] at e0
   have e1 := str_beq ht (b := [45]) (fun x hx => by rw [List.mem_singleton.1 hx]; decide)
   rw [toList_strOf [45], show ([45] : List Nat).map UInt8.ofNat = [45] from rfl] at e1
   by_cases g1 : t = [45]
   · rw [decide_eq_true g1] at e1
     have hv : Hid (joiN t = 4) := by show _ = _; rw [g1]; rfl
     clear g0 g1
     generalize strOf t = T at *
     go_enter Tryz.func97, Tryz.ntmps97
     go_wp2
     go_ret
     exact ⟨by rw [hv.out]; rfl, rfl⟩
   · rw [decide_eq_false g1] at e1
     have e2 := str_beq ht (b := [42]) (fun x hx => by rw [List.mem_singleton.1 hx]; decide)
     rw [toList_strOf [42], show ([42] : List Nat).map UInt8.ofNat = [42] from rfl] at e2
     by_cases g2 : t = [42]
     · rw [decide_eq_true g2] at e2
       have hv : Hid (joiN t = 5) := by show _ = _; rw [g2]; rfl
       clear g0 g1 g2
       generalize strOf t = T at *
       go_enter Tryz.func97, Tryz.ntmps97
       go_wp2
       go_ret
       exact ⟨by rw [hv.out]; rfl, rfl⟩
     · rw [decide_eq_false g2] at e2
       have hv : Hid (joiN t = 6) := by show _ = _; unfold joiN; rw [if_neg g0, if_neg g1, if_neg g2]
       clear g0 g1 g2
       generalize strOf t = T at *
       go_enter Tryz.func97, Tryz.ntmps97
       go_wp2
       go_ret
       exact ⟨by rw [hv.out]; rfl, rfl⟩
theorem RdW.depth (h : RdW w B q en L st) (o : Nat) : RdW (w.setCell ⟨q, 10, none⟩ (.int .i64 (o : Int))) B q en L { st with op := o } := by
 obtain ⟨A, n, c, C, m, d, ts, h1, h2, h3, h4, h5, h6, h7, h8⟩ := h
 have hg := grown_set w q 10 (.int .i64 (o : Int))
 exact ⟨A, n, c, C, m, d, ts, h1.set 10 _, h2.kn (Kn.of (B := B) hg) h1, h3.q h1 hg, h4, h5, h6, h7.kn (Kn.of hg) h6, h8⟩
theorem RdW.cell10 (h : RdW w B q en L st) : w.cell? ⟨q, 10, none⟩ = some (.int .i64 (st.op : Int)) ∧ w.frozen? ⟨q, 10, none⟩ = false := by
 obtain ⟨A, n, c, C, m, d, h1⟩ := h.size
 exact ⟨h1.cell (k := 10) rfl, h1.free 10⟩
theorem opnP_op (L : Lim) (st : St) : (opnP L st).op = st.op := by
 unfold opnP failS
 split
 · split <;> rfl
 · rfl
theorem RdW.fill (h : RdW w B q en L st) {g : Nat} {U : Array Value} (hr : RowA w g 89 U) (hne : g ≠ q) (hgB : B ≤ g) (V' : Array Value) : RdW (w.setRow g V') B q en L st := by
 obtain ⟨A, n, c, C, m, d, ts, h1, h2, h3, h4, h5, h6, h7, h8⟩ := h
 have hg : w.grownBy (w.setRow g V') (some g) := ⟨rfl, rfl, rfl, by rw [setRow_size]; exact Nat.le_refl _, fun k hk hr => setRow_other w g k V' (fun e => hr (by rw [e]))⟩
 have ho := h3.2.differ hr (by decide)
 refine ⟨A, n, c, C, m, d, ts, h1.grown hg (fun e => hne (by injection e)), ⟨h2.1, h2.2.1, h2.2.2.1, fun h0 => ?_⟩, ⟨h3.1, h3.2.over hg (fun k e => by cases e; exact ho)⟩, h4, h5, h6, ?_, h8⟩
 · obtain ⟨g2, o, V, e, hb, hr2, hc⟩ := h2.2.2.2 h0
   have hr3 := hr2.grown hg (fun e => by injection e with e; omega)
   exact ⟨g2, o, V, e, hb, hr3, fun i t hi => inV_row (hc i t hi) hr2 hr3⟩
 · refine ⟨h7.1.same fun b i v hb hc => ?_, h7.2⟩
   have e := hg.block b (kcell_lt hc) (fun e => by injection e with e; have := h7.2; omega)
   rw [← hc]
   simp [World.cell?, e]
set_option maxHeartbeats 4000000 in
set_option maxRecDepth 100000 in
theorem pOpen_c (h : RdW w B q en L st) (hop : st.op ≤ 1000) (hB : B ≤ w.heap.size) :
 Calls Tryz.prog 107 #[.pointer (some ⟨q, 0, none⟩)] w fun x w' => x = .returned (.agg (tkV (opnX L st))) ∧ RdW w' B q en L (opnS L st) ∧ w.grownBy w' (some q) := by
 have hlt := h.lt
 have bn := below_new w (.cells (tkC 0 ⟨#[]⟩ 0) 89)
 have HX := rowA_new w 89 (tkC 0 ⟨#[]⟩ 0)
 have H1 := Lib.hid (h.below bn)
 have G1 := Lib.hid (gr_of bn (some q))
 obtain ⟨g1, hg1⟩ : ∃ g, g = w.heap.size := ⟨_, rfl⟩
 rw [← hg1] at HX
 have Hg1 := Lib.hid hg1
 have Hne : Hid (some q ≠ some g1) := fun e => by injection e with e; omega
 have HX := Lib.hid HX
 have Hop := Lib.hid hop
 have HBw := Lib.hid hB
 clear h bn hlt hop hB
 go_enter Tryz.func107, Tryz.ntmps107
 go_wp2_with fail
 rw [← hg1]
 clear hg1
 generalize w.alloc (.cells (tkC 0 ⟨#[]⟩ 0) 89) = w1 at *
 obtain ⟨A, n, c, C, m, d, hr0⟩ := H1.out.size
 have k10 := hr0.cell (k := 10) (v := .int .i64 (st.op : Int)) rfl
 have k3 := hr0.cell (k := 3) (v := .int .i64 (L.deep : Int)) rfl
 clear hr0
 by_cases hmk : st.op = L.deep
 · have e1 : ((st.op : Int) == (L.deep : Int)) = true := by rw [hmk]; simp
   have hP : Hid (opnP L st = failS 2 (pkS st).2.2 st) := by show _ = _; unfold opnP; rw [if_pos hmk]
   clear hmk
   go_quiet (fail)
   have bq := below_drewN (Below.refl w1.heap.size w1) nq
   have H2 := Lib.hid (H1.out.below bq)
   have G2 := Lib.hid (gr_trans G1.out (gr_of bq (some q)))
   have X2 := Lib.hid (HX.out.below bq)
   generalize w1.drewN nq = w2 at *
   clear k10 k3 bq H1 G1 HX
   obtain ⟨⟨k, t, a⟩, hp⟩ : ∃ t, t = pkS (st) := ⟨_, rfl⟩
   replace hp := Lib.hid hp.symm
   have hfld := fun W => (fldTk (k : Int) (strOf t) (a : Int) W).2.2
   go_wp2_with fail
   refine (pPeek_t H2.out hp.out).mono ?_
   rintro e w3 ⟨rfl, bn⟩
   have H3 := Lib.hid (H2.out.below bn)
   have G3 := Lib.hid (gr_trans G2.out (gr_of bn (some q)))
   have X3 := Lib.hid (X2.out.below bn)
   clear bn H2 G2 X2
   go_wp2_with fail
   refine (pFail_c H3.out 2 (a : Int) (by decide)).mono ?_
   rintro e wB ⟨rfl, hS, hg⟩
   have HS : Hid (RdW wB B q en L (opnP L st)) := by show RdW _ _ _ _ _ _; rw [hP.out, hp.out]; exact hS
   have GB := Lib.hid (gr_trans G3.out hg)
   have XB := Lib.hid (X3.out.grown hg Hne.out)
   clear hS hg H3 G3 X3 hfld
   have hop : (opnP L st).op = st.op := opnP_op L st
   obtain ⟨k10, f10⟩ := HS.out.cell10
   rw [hop] at k10
   have hop6 : (st.op : Int) ≤ 1000000 := by have := Hop.out; omega
   have hop0 : (0 : Int) ≤ (st.op : Int) := by omega
   have HD : Hid (RdW (wB.setCell ⟨q, 10, none⟩ (.int .i64 ((st.op : Int) + 1))) B q en L (incS (opnP L st))) := by
    have h := HS.out.depth (st.op + 1)
    have e : incS (opnP L st) = { opnP L st with op := st.op + 1 } := by unfold incS; rw [hop]
    show RdW _ _ _ _ _ _
    rw [e]
    exact h
   have GD := Lib.hid (gr_trans GB.out (grown_set wB q 10 (.int .i64 ((st.op : Int) + 1))))
   have XD := Lib.hid (XB.out.grown (grown_set wB q 10 (.int .i64 ((st.op : Int) + 1))) Hne.out)
   clear HS GB XB hop
   go_wp2_with fail
   generalize wB.setCell ⟨q, 10, none⟩ (.int .i64 ((st.op : Int) + 1)) = wD at *
   clear k10 f10 hop6 hop0
   refine (pRead_c HD.out).mono ?_
   rintro e wE ⟨rfl, hE, hg⟩
   have HE := Lib.hid hE
   have GE := Lib.hid (gr_trans GD.out hg)
   have XE := Lib.hid (XD.out.grown hg Hne.out)
   have HU : Hid (Many Tryz.prog 89 (tkV (pkS (incS (opnP L st)))).size ∧ (tkC 0 ⟨#[]⟩ 0).size = (tkV (pkS (incS (opnP L st)))).size ∧ ∀ v ∈ tkV (pkS (incS (opnP L st))), v.oneCell' = true) := fitsTk _ _ _
   have HRf := Lib.hid (RowA.fill XE.out (V' := tkV (pkS (incS (opnP L st)))))
   have HF : Hid (RdW (wE.setRow g1 (tkV (pkS (incS (opnP L st))))) B q en L (opnS L st)) := by
    exact RdW.fill HE.out XE.out (fun e => Hne.out (congrArg some e.symm)) (by rw [Hg1.out]; exact HBw.out) (tkV (pkS (incS (opnP L st))))
   have HG := Lib.hid (gr_fill GE.out (Nat.le_of_eq Hg1.out.symm) (tkV (pkS (incS (opnP L st)))))
   clear hE hg HD GD XD HE GE
   go_wp2_with (refine wpList_storeV (by rfl) _ _ _ (by rfl) _ (by rfl) _ (by rfl) _ _ (by assumption) (by assumption) ?_)
   refine bodyPost_ret (results_cell_row rfl _ _ _ 89 (tkV (pkS (incS (opnP L st)))) (0, 0) _ rfl HRf.out Tryz.underlying89 rfl sizeTk) rfl ?_
   exact ⟨rfl, HF.out, HG.out⟩
 · have e1 : ((st.op : Int) == (L.deep : Int)) = false := by rw [beq_eq_false_iff_ne]; omega
   have hP : Hid (opnP L st = st) := by show _ = _; unfold opnP; rw [if_neg hmk]
   clear hmk
   go_quiet (fail)
   have bq := below_drewN (Below.refl w1.heap.size w1) nq
   have H2 := Lib.hid (H1.out.below bq)
   have G2 := Lib.hid (gr_trans G1.out (gr_of bq (some q)))
   have X2 := Lib.hid (HX.out.below bq)
   generalize w1.drewN nq = w2 at *
   clear k10 k3 bq H1 G1 HX
   have HS : Hid (RdW w2 B q en L (opnP L st)) := by show RdW _ _ _ _ _ _; rw [hP.out]; exact H2.out
   have GB := Lib.hid G2.out
   have XB := Lib.hid X2.out
   clear H2 G2 X2
   generalize w2 = wB at *
   have hop : (opnP L st).op = st.op := opnP_op L st
   obtain ⟨k10, f10⟩ := HS.out.cell10
   rw [hop] at k10
   have hop6 : (st.op : Int) ≤ 1000000 := by have := Hop.out; omega
   have hop0 : (0 : Int) ≤ (st.op : Int) := by omega
   have HD : Hid (RdW (wB.setCell ⟨q, 10, none⟩ (.int .i64 ((st.op : Int) + 1))) B q en L (incS (opnP L st))) := by
    have h := HS.out.depth (st.op + 1)
    have e : incS (opnP L st) = { opnP L st with op := st.op + 1 } := by unfold incS; rw [hop]
    show RdW _ _ _ _ _ _
    rw [e]
    exact h
   have GD := Lib.hid (gr_trans GB.out (grown_set wB q 10 (.int .i64 ((st.op : Int) + 1))))
   have XD := Lib.hid (XB.out.grown (grown_set wB q 10 (.int .i64 ((st.op : Int) + 1))) Hne.out)
   clear HS GB XB hop
   go_wp2_with fail
   generalize wB.setCell ⟨q, 10, none⟩ (.int .i64 ((st.op : Int) + 1)) = wD at *
   clear k10 f10 hop6 hop0
   refine (pRead_c HD.out).mono ?_
   rintro e wE ⟨rfl, hE, hg⟩
   have HE := Lib.hid hE
   have GE := Lib.hid (gr_trans GD.out hg)
   have XE := Lib.hid (XD.out.grown hg Hne.out)
   have HU : Hid (Many Tryz.prog 89 (tkV (pkS (incS (opnP L st)))).size ∧ (tkC 0 ⟨#[]⟩ 0).size = (tkV (pkS (incS (opnP L st)))).size ∧ ∀ v ∈ tkV (pkS (incS (opnP L st))), v.oneCell' = true) := fitsTk _ _ _
   have HRf := Lib.hid (RowA.fill XE.out (V' := tkV (pkS (incS (opnP L st)))))
   have HF : Hid (RdW (wE.setRow g1 (tkV (pkS (incS (opnP L st))))) B q en L (opnS L st)) := by
    exact RdW.fill HE.out XE.out (fun e => Hne.out (congrArg some e.symm)) (by rw [Hg1.out]; exact HBw.out) (tkV (pkS (incS (opnP L st))))
   have HG := Lib.hid (gr_fill GE.out (Nat.le_of_eq Hg1.out.symm) (tkV (pkS (incS (opnP L st)))))
   clear hE hg HD GD XD HE GE
   go_wp2_with (refine wpList_storeV (by rfl) _ _ _ (by rfl) _ (by rfl) _ (by rfl) _ _ (by assumption) (by assumption) ?_)
   refine bodyPost_ret (results_cell_row rfl _ _ _ 89 (tkV (pkS (incS (opnP L st)))) (0, 0) _ rfl HRf.out Tryz.underlying89 rfl sizeTk) rfl ?_
   exact ⟨rfl, HF.out, HG.out⟩
end
end Go.Proofs.YtheaepceghnkpaaGreatDoor

/- What strconv.Atoi answers at any text, what the reader of package parse does with a number of a few digits. Condition: a reader that reads in memory. -/
namespace Go.Proofs.YtheaepceghnkpaaGreatDoor
open Go.RowKit Limb
set_option linter.unusedVariables false
section
variable {w : World} {B q en : Nat} {L : Lim} {st : St}
theorem decFrom_all : ∀ (l : List UInt8) (acc : Nat), (l.map UInt8.toNat).all isDig = true → Lib.decFrom acc l = some ((l.map UInt8.toNat).foldl (fun a d => a * 10 + (d - 48)) acc)
 | [], acc, _ => rfl
 | c :: r, acc, h => by
  rw [List.map_cons, List.all_cons, Bool.and_eq_true] at h
  have hd : Lib.digitVal c = some (c.toNat - 48) := if_pos (by have := h.1; unfold isDig at this; simpa using this)
  simp only [Lib.decFrom, hd]
  rw [decFrom_all r _ h.2]; rfl
theorem decFrom_not : ∀ (l : List UInt8) (acc : Nat), (l.map UInt8.toNat).all isDig = false → Lib.decFrom acc l = Option.none
 | [], acc, h => by cases h
 | c :: r, acc, h => by
  rw [List.map_cons, List.all_cons] at h
  by_cases hc : isDig c.toNat = true
  · have hd : Lib.digitVal c = some (c.toNat - 48) := if_pos (by unfold isDig at hc; simpa using hc)
    simp only [Lib.decFrom, hd]
    rw [hc, Bool.true_and] at h
    exact decFrom_not r _ h
  · have hd : Lib.digitVal c = Option.none := if_neg (by unfold isDig at hc; simpa using hc)
    simp only [Lib.decFrom, hd]
theorem atoi_hd {tx : List Nat} {E : ByteArray} (hE : bytesOf E = tx) {c : Nat} {r : List Nat} (h : tx = c :: r) (hc : isDig c = true) : Lib.atoi E.data.toList = if tx.all isDig = true then some ((digV tx : Nat) : Int) else Option.none := by
 unfold bytesOf at hE
 generalize E.data.toList = l at hE ⊢
 subst h
 obtain ⟨y, l3, e4, e5, e6⟩ := List.map_eq_cons_iff.1 hE
 subst e4
 have n1 : (y == 45) = false := by
  rw [beq_eq_false_iff_ne]; rintro rfl
  rw [← e5] at hc; exact absurd hc (by decide)
 have n2 : (y == 43) = false := by
  rw [beq_eq_false_iff_ne]; rintro rfl
  rw [← e5] at hc; exact absurd hc (by decide)
 show (if (y == 45) = true then (Lib.decNat l3).map (fun m : Nat => -(m : Int)) else if (y == 43) = true then (Lib.decNat l3).map (fun m : Nat => (m : Int)) else (Lib.decNat (y :: l3)).map (fun m : Nat => (m : Int))) = _
 rw [n1, n2]
 simp only [Bool.false_eq_true, if_false]
 have e0 : Lib.decNat (y :: l3) = Lib.decFrom 0 (y :: l3) := rfl
 rw [e0, ← hE]
 by_cases ha : ((y :: l3).map UInt8.toNat).all isDig = true
 · rw [if_pos ha, decFrom_all _ _ ha]; rfl
 · rw [if_neg ha, decFrom_not _ _ (by simpa using ha)]; rfl
theorem pAtoi_c (E : ByteArray) (hs : E.size ≤ 5000) (w : World) (T : ETab w) :
 Calls Tryz.prog 93 #[.string E] w fun e w' => ∃ N v, e = .returned (.tuple #[.int .i64 N, v]) ∧ Below w.heap.size w w' ∧ (E.size ≤ 18 → (∀ n, Lib.atoi E.data.toList = some n → N = n ∧ v = .nilIface) ∧ (Lib.atoi E.data.toList = Option.none → ∃ t p, v = .iface t p)) := by
 obtain ⟨⟨te, pe, h1⟩, te2, pe2, h2⟩ := T
 have hsh : E.size ≤ 18 → Lib.atoiAll E.data.toList = Lib.NumEnd.ofOption (Lib.atoi E.data.toList) := fun h => Lib.atoiAll_short _ (by rw [Array.length_toList]; exact h)
 cases h : Lib.atoiAll E.data.toList
 · rename_i v
   refine (Any.strconv_Atoi_ok Tryz.laysC172 E (by omega) v h w).mono ?_
   rintro e w' ⟨rfl, hw⟩
   refine ⟨v, .nilIface, rfl, ?_, fun hz => ⟨fun n hn => ?_, fun hn => ?_⟩⟩
   · rcases hw with rfl | ⟨t, rfl⟩
     · exact Below.refl _ _
     · exact Lib.bytesWorld_below _ _ _
   · have := hsh hz; rw [h, hn] at this; injection this with this; exact ⟨this, rfl⟩
   · have := hsh hz; rw [h, hn] at this; cases this
 · refine (Any.strconv_Atoi_syntax Tryz.laysC172 E (by omega) h _ w h1 (.inr ⟨te, pe, rfl⟩)).mono ?_
   rintro e w' ⟨N, rfl, _, _, hb⟩
   refine ⟨0, _, rfl, hb, fun hz => ⟨fun n hn => ?_, fun hn => ⟨_, _, rfl⟩⟩⟩
   have := hsh hz; rw [h, hn] at this; cases this
 · refine (Any.strconv_Atoi_range Tryz.laysC172 E (by omega) h _ w h2 (.inr ⟨te2, pe2, rfl⟩)).mono ?_
   rintro e w' ⟨N, rfl, _, _, hb⟩
   refine ⟨_, _, rfl, hb, fun hz => ⟨fun n hn => ?_, fun hn => ⟨_, _, rfl⟩⟩⟩
   have := hsh hz; rw [h, hn] at this; cases this
theorem refS_E (en : Nat) (st : St) : (rdS (refS en st)).E ≠ 0 := by
 unfold refS failS
 split
 · exact fun e => by cases e
 · rename_i h; exact h
set_option maxHeartbeats 4000000 in
set_option maxRecDepth 100000 in
theorem pSmall_c (h : RdW w B q en L st) (k most : Nat) (hk : k ≤ 3) :
 Calls Tryz.prog 80 #[.pointer (some ⟨q, 0, none⟩), .int .i64 (k : Int), .int .i64 (most : Int)] w fun x w' => ∃ N : Int, x = .returned (.int .i64 N) ∧ ((smlS en k most st).E = 0 → N = ((smlV k st).getD 0 : Nat)) ∧ RdW w' B q en L (smlS en k most st) ∧ w.grownBy w' (some q) ∧ C8 q w w' := by
 obtain ⟨⟨kd, t, a⟩, hp⟩ : ∃ t, t = pkS st := ⟨_, rfl⟩
 have hF := h.pk
 rw [← hp] at hF
 replace hp := Lib.hid hp.symm
 obtain ⟨hF1, hF2, hF3⟩ := hF
 dsimp only at hF1 hF2 hF3
 have hbt : bytesOf (strOf t) = t := bytesOf_strOf hF1
 have hsz := size_strOf t
 have HV : Hid (smlV k st = if kd = 2 then smallT t k else Option.none) := by show _ = _; unfold smlV; rw [hp.out]
 generalize hT : strOf t = T at hbt hsz
 have HT := Lib.hid hT
 have hs5 : T.size ≤ 5000 := by omega
 have HBt := Lib.hid hbt
 have HSz := Lib.hid hsz
 have HU := Lib.hid (fitsTk (kd : Int) T (a : Int))
 have HF3 := Lib.hid hF3
 have Hs5 := Lib.hid hs5
 have Hk := Lib.hid hk
 have H0 := Lib.hid h
 have Hq0 := Lib.hid h.lt
 clear h hT hbt hsz hF1 hF2 hF3 hs5 hk
 go_enter Tryz.func80, Tryz.ntmps80
 go_wp2_with fail
 refine (pPeek_t H0.out hp.out).mono ?_
 rintro e w2 ⟨rfl, bn⟩
 rw [HT.out]
 have b2 := below_two bn (below_new w2 (.cells #[.int .i64 (kd : Int), .string T, .int .i64 (a : Int)] 89))
 have HR := rowA_new w2 89 #[.int .i64 (kd : Int), .string T, .int .i64 (a : Int)]
 have H2 := Lib.hid (H0.out.below b2)
 have HB2 := Lib.hid b2
 have k1 := HR.cell (k := 1) (v := .string T) rfl
 have HR := Lib.hid HR
 clear bn b2
 go_wp2_with (refine wpList_storeNew (by rfl) _ _ _ (by rfl) _ _ _ (by rfl) (by rfl) (by assumption) ?_; generalize w2.alloc (.cells #[.int .i64 (kd : Int), .string T, .int .i64 (a : Int)] 89) = w3 at *)
 obtain ⟨gb, hgb⟩ : ∃ g, g = w2.heap.size := ⟨_, rfl⟩
 rw [← hgb] at HR k1 ⊢
 clear hgb
 refine (pAtoi_c T Hs5.out w3 H2.out.tabs.2.2).mono ?_
 rintro e w4 ⟨N, v, rfl, bn, hat⟩
 have HA := Lib.hid hat
 have H4 := Lib.hid (H2.out.below bn)
 have HB4 := Lib.hid (below_two HB2.out bn)
 have HR4 := HR.out.below bn
 have k0 := HR4.cell (k := 0) (v := .int .i64 (kd : Int)) rfl
 have k1 := HR4.cell (k := 1) (v := .string T) rfl
 have k2 := HR4.cell (k := 2) (v := .int .i64 (a : Int)) rfl
 clear bn hat H2 HB2 HR HR4
 by_cases h2 : kd = 2
 · have e2 : ((kd : Int) != 2) = false := by rw [h2]; rfl
   by_cases h3 : k < t.length
   · have e3 : (k : Int) < (T.size : Int) := by have := HSz.out; omega
     have HN : Hid (smlV k st = Option.none) := by
      show _ = _
      rw [HV.out, if_pos h2]
      exact if_neg (fun hh => by have := hh.2.2; omega)
     clear h2 h3
     go_wp2_with fail
     refine (pRefuse_x H4.out).mono ?_
     rintro e w5 ⟨rfl, h5, hg, h8⟩
     have C5 := Lib.hid ((C8.below HB4.out Hq0.out).trans h8)
     have H5 := Lib.hid h5
     have G5 := Lib.hid (gr_trans (gr_of HB4.out (some q)) hg)
     clear h5 hg k0 k1 k2
     go_wp2_with fail
     refine (pRead_x H5.out).mono ?_
     rintro e w6 ⟨rfl, h6, hg, h8⟩
     have C6 := Lib.hid (C5.out.trans h8)
     have H6 := Lib.hid h6
     have G6 := Lib.hid (gr_trans G5.out hg)
     clear h6 hg
     go_wp2
     go_ret
     have hst : smlS en k most st = rdS (refS en st) := by unfold smlS smlP; rw [HN.out]
     refine ⟨_, rfl, fun e => ?_, by rw [hst]; exact H6.out, G6.out, C6.out⟩
     rw [hst] at e
     exact absurd e (refS_E en st)
   · have e3 : ¬ (k : Int) < (T.size : Int) := by have := HSz.out; omega
     have h18 : T.size ≤ 18 := by have := HSz.out; have := Hk.out; omega
     obtain ⟨c, r, hcr, hc⟩ := HF3.out h2
     have hat := atoi_hd HBt.out hcr hc
     obtain ⟨ha1, ha2⟩ := HA.out h18
     by_cases had : t.all isDig = true
     · rw [if_pos had] at hat
       obtain ⟨rfl, rfl⟩ := ha1 _ hat
       have HN : Hid (smlV k st = some (digV t)) := by
        show _ = _
        rw [HV.out, if_pos h2]
        exact if_pos ⟨had, by rw [hcr]; simp, by omega⟩
       clear ha1 ha2 had hat hcr hc h3 h2 h18
       generalize digV t = n at *
       by_cases hm : most < n
       · have e4 : (most : Int) < (n : Int) := by omega
         have Hm := Lib.hid hm
         clear hm
         go_wp2_with fail
         refine (pFail_8 H4.out 2 (a : Int) (by decide)).mono ?_
         rintro e w5 ⟨rfl, h5, hg, h8⟩
         have C5 := Lib.hid ((C8.below HB4.out Hq0.out).trans h8)
         have H5 := Lib.hid h5
         have G5 := Lib.hid (gr_trans (gr_of HB4.out (some q)) hg)
         clear h5 hg k0 k1 k2
         go_wp2_with fail
         refine (pRead_x H5.out).mono ?_
         rintro e w6 ⟨rfl, h6, hg, h8⟩
         have C6 := Lib.hid (C5.out.trans h8)
         have H6 := Lib.hid h6
         have G6 := Lib.hid (gr_trans G5.out hg)
         clear h6 hg
         go_wp2
         go_ret
         have hst : smlS en k most st = rdS (failS 2 (a : Int) st) := by unfold smlS smlP; rw [HN.out, hp.out]; show rdS (if most < n then _ else _) = _; rw [if_pos Hm.out]
         refine ⟨_, rfl, fun e => ?_, by rw [hst]; exact H6.out, G6.out, C6.out⟩
         rw [HN.out]; rfl
       · have e4 : ¬ (most : Int) < (n : Int) := by omega
         have Hm := Lib.hid hm
         have G4 := Lib.hid (gr_of HB4.out (some q))
         have C4 := Lib.hid (C8.below HB4.out Hq0.out)
         clear hm
         go_wp2_with fail
         refine (pRead_x H4.out).mono ?_
         rintro e w6 ⟨rfl, h6, hg, h8⟩
         have C6 := Lib.hid (C4.out.trans h8)
         have H6 := Lib.hid h6
         have G6 := Lib.hid (gr_trans G4.out hg)
         clear h6 hg
         go_wp2
         go_ret
         have hst : smlS en k most st = rdS st := by unfold smlS smlP; rw [HN.out]; show rdS (if most < n then _ else _) = _; rw [if_neg Hm.out]
         refine ⟨_, rfl, fun e => ?_, by rw [hst]; exact H6.out, G6.out, C6.out⟩
         rw [HN.out]; rfl
     · rw [if_neg had] at hat
       obtain ⟨ti, pi, rfl⟩ := ha2 hat
       have HN : Hid (smlV k st = Option.none) := by
        show _ = _
        rw [HV.out, if_pos h2]
        exact if_neg (fun hh => had hh.1)
       clear ha1 ha2 had hat hcr hc h3 h2 h18
       go_wp2_with fail
       refine (pRefuse_x H4.out).mono ?_
       rintro e w5 ⟨rfl, h5, hg, h8⟩
       have C5 := Lib.hid ((C8.below HB4.out Hq0.out).trans h8)
       have H5 := Lib.hid h5
       have G5 := Lib.hid (gr_trans (gr_of HB4.out (some q)) hg)
       clear h5 hg k0 k1 k2
       go_wp2_with fail
       refine (pRead_x H5.out).mono ?_
       rintro e w6 ⟨rfl, h6, hg, h8⟩
       have C6 := Lib.hid (C5.out.trans h8)
       have H6 := Lib.hid h6
       have G6 := Lib.hid (gr_trans G5.out hg)
       clear h6 hg
       go_wp2
       go_ret
       have hst : smlS en k most st = rdS (refS en st) := by unfold smlS smlP; rw [HN.out]
       refine ⟨_, rfl, fun e => ?_, by rw [hst]; exact H6.out, G6.out, C6.out⟩
       rw [hst] at e
       exact absurd e (refS_E en st)
 · have e2 : ((kd : Int) != 2) = true := by simp; omega
   have HN : Hid (smlV k st = Option.none) := by show _ = _; rw [HV.out, if_neg h2]
   clear h2
   go_wp2_with fail
   refine (pRefuse_x H4.out).mono ?_
   rintro e w5 ⟨rfl, h5, hg, h8⟩
   have C5 := Lib.hid ((C8.below HB4.out Hq0.out).trans h8)
   have H5 := Lib.hid h5
   have G5 := Lib.hid (gr_trans (gr_of HB4.out (some q)) hg)
   clear h5 hg k0 k1 k2
   go_wp2_with fail
   refine (pRead_x H5.out).mono ?_
   rintro e w6 ⟨rfl, h6, hg, h8⟩
   have C6 := Lib.hid (C5.out.trans h8)
   have H6 := Lib.hid h6
   have G6 := Lib.hid (gr_trans G5.out hg)
   clear h6 hg
   go_wp2
   go_ret
   have hst : smlS en k most st = rdS (refS en st) := by unfold smlS smlP; rw [HN.out]
   refine ⟨_, rfl, fun e => ?_, by rw [hst]; exact H6.out, G6.out, C6.out⟩
   rw [hst] at e
   exact absurd e (refS_E en st)
end
end Go.Proofs.YtheaepceghnkpaaGreatDoor

/- What the reader of package parse does: join. Condition: a reader that reads in memory. -/
namespace Go.Proofs.YtheaepceghnkpaaGreatDoor
open Go.RowKit Limb
set_option linter.unusedVariables false
section
variable {w : World} {B q en : Nat} {L : Lim} {st : St}
def CaR (B q en : Nat) (L : Lim) (j : Nat) (st1 : St) (i : Nat) (wx wy : World) : Prop := if i = j then RdW wy B q en L st1 ∧ Kn B q wx wy else Below wx.heap.size wx wy
theorem CaR.of {B q en : Nat} {L : Lim} {j : Nat} {st1 : St} {i : Nat} {wx wy : World} (h : Below wx.heap.size wx wy) (hi : i ≠ j) : CaR B q en L j st1 i wx wy := by unfold CaR; rw [if_neg hi]; exact h
theorem CaR.at {B q en : Nat} {L : Lim} {j : Nat} {st1 : St} {wx wy : World} (h : RdW wy B q en L st1) (k : Kn B q wx wy) : CaR B q en L j st1 j wx wy := by unfold CaR; rw [if_pos rfl]; exact ⟨h, k⟩
theorem CaR.kn {B q en : Nat} {L : Lim} {j : Nat} {st1 : St} {i : Nat} {wx wy : World} (h : CaR B q en L j st1 i wx wy) : Kn B q wx wy := by
 unfold CaR at h
 split at h
 · exact h.2
 · exact Kn.below h
def CaS (wS : World) (B q en : Nat) (L : Lim) (j : Nat) (st st1 : St) (gb : Nat) (U : Array Value) (l : Nat → Bool) (wx : World) : Prop :=
 RowA wx gb 89 U ∧ Kn B q wS wx ∧ (l j = false → RdW wx B q en L st) ∧ (l j = true → RdW wx B q en L st1)
theorem CaS.step {wS : World} {B q en : Nat} {L : Lim} {j : Nat} {st st1 : St} {gb : Nat} {U : Array Value} {l : Nat → Bool} {i : Nat} {wx wy : World} (hne : gb ≠ q) (hl : l i = false) (hR : CaR B q en L j st1 i wx wy) (h : CaS wS B q en L j st st1 gb U l wx) :
 CaS wS B q en L j st st1 gb U (fun k => if k = i then true else l k) wy := by
 obtain ⟨h1, h2, h3, h4⟩ := h
 have hk := hR.kn
 refine ⟨hk.row h1 hne (by decide), h2.trans hk, fun e => ?_, fun e => ?_⟩
 · dsimp only at e
   by_cases hi : j = i
   · rw [if_pos hi] at e; cases e
   · rw [if_neg hi] at e
     unfold CaR at hR
     rw [if_neg (Ne.symm hi)] at hR
     exact (h3 e).below hR
 · dsimp only at e
   by_cases hi : j = i
   · unfold CaR at hR
     rw [if_pos hi.symm] at hR
     exact hR.1
   · rw [if_neg hi] at e
     unfold CaR at hR
     rw [if_neg (Ne.symm hi)] at hR
     exact (h4 e).below hR
theorem rdw_any {wS w : World} {B q en : Nat} {L : Lim} {j : Nat} {st : St} {gb : Nat} {U : Array Value} {l : Nat → Bool} (h : CaS wS B q en L j st st gb U l w) : RdW w B q en L st := by
 cases e : l j with
 | false => exact h.2.2.1 e
 | true => exact h.2.2.2 e
set_option maxHeartbeats 4000000 in
set_option maxRecDepth 100000 in
theorem pJoin_c (h : RdW w B q en L st) (hB : B ≤ w.heap.size) (F : Nat) (hcall : ∀ args w, (callFunc F args).run Tryz.prog w = .ok (.enter F args) w) (fS : St → St) (hF0 : ∀ w1, RdW w1 B q en L (rdS st) → B ≤ w1.heap.size → Calls Tryz.prog F #[.pointer (some ⟨q, 0, none⟩)] w1 fun e w' => e = .returned (.tuple #[]) ∧ RdW w' B q en L (fS (rdS st)) ∧ Kn B q w1 w') (hfit : (fS (rdS st)).ts.length ≤ 1000000 ∧ (fS (rdS st)).mad ≤ 1000000) :
 Calls Tryz.prog 82 #[.pointer (some ⟨q, 0, none⟩), .func (.func F) #[.pointer (some ⟨q, 0, none⟩)] #[]] w fun x w' => x = .returned (.tuple #[]) ∧ RdW w' B q en L (joiK L fS st) ∧ Kn B q w w' := by
 have hF := h.pk
 obtain ⟨⟨k, t, a⟩, hp⟩ : ∃ t, t = pkS st := ⟨_, rfl⟩
 rw [← hp] at hF
 replace hp := Lib.hid hp.symm
 have hbt := Lib.hid hF.1
 have H0 := Lib.hid h
 have HBw := Lib.hid hB
 have HU := Lib.hid (fitsTk (k : Int) (strOf t) (a : Int))
 have hq0 := Lib.hid h.lt
 have HFS := Lib.hid hF0
 have HFi := Lib.hid hfit
 clear h hB hF hF0 hfit
 go_enter Tryz.func82, Tryz.ntmps82
 go_wp2_with fail
 refine (pLast_c H0.out).mono ?_
 rintro e w1 ⟨rfl, rfl⟩
 go_wp2_with fail
 refine (pRead_t H0.out hp.out).mono ?_
 rintro e w2 ⟨rfl, h2, hg⟩
 have bx := below_new w2 (.cells #[.int .i64 (k : Int), .string (strOf t), .int .i64 (a : Int)] 89)
 have H2 := Lib.hid (h2.below bx)
 have K2 := Lib.hid ((Kn.of (B := B) hg).trans (Kn.below bx))
 have HX2 := Lib.hid (rowA_new w2 89 #[.int .i64 (k : Int), .string (strOf t), .int .i64 (a : Int)])
 have hgq : Hid (w2.heap.size ≠ q) := by show _ ≠ _; have := h2.lt; omega
 clear h2 hg bx
 go_wp2_with (refine wpList_storeNew (by rfl) _ _ _ (by rfl) _ _ _ (by rfl) (by rfl) (by assumption) ?_)
 generalize w2.alloc (.cells #[.int .i64 (k : Int), .string (strOf t), .int .i64 (a : Int)] 89) = w3 at *
 obtain ⟨gb, hgb⟩ : ∃ g, g = w2.heap.size := ⟨_, rfl⟩
 rw [← hgb] at hgq HX2 ⊢
 clear hgb
 go_wp2_with (go_at_fn F; refine (HFS.out w3 H2.out (Nat.le_trans HBw.out K2.out.size)).mono ?_; rintro e wS ⟨rfl, h4, k4⟩)
 have HS := Lib.hid h4
 have HK0 := Lib.hid (K2.out.trans k4)
 have HX := Lib.hid (k4.row HX2.out hgq.out (by decide))
 clear h4 k4 H2 K2 HX2 HFS
 go_wp2_with fail
 refine region_freeT 10 1 6 [some 12, some 13, some 14, some 15, some 16, some 17, some 18, some 19, some 20, some 21] ?aFq (CaR B q en L 100 (fS (rdS st))) (CaS wS B q en L 100 (fS (rdS st)) (fS (rdS st)) gb (#[.int .i64 (k : Int), .string (strOf t), .int .i64 (a : Int)])) (fun k vv wx => match k with
  | 0 => vv = .pointer (some ⟨q, 0, none⟩)
  | 1 => vv = .pointer (some ⟨gb, 1, none⟩)
  | 2 => vv = .string (strOf t)
  | 3 => vv = .int .i64 (joiN t)
  | 4 => vv = .int .i64 (lastS st)
  | 5 => vv = .pointer (some ⟨q, 0, none⟩)
  | 6 => vv = .int .i64 (lastS (fS (rdS st)))
  | 7 => vv = .pointer (some ⟨gb, 2, none⟩)
  | 8 => vv = .int .i64 (a : Int)
  | _ => vv = .agg (ndC (joiN t) (lastS st) (lastS (fS (rdS st))) 0 ⟨#[]⟩ ⟨#[]⟩ (a : Int)))
  (by kernel_rfl) ?haFq rfl (by kernel_rfl) (by kernel_rfl) (fun _ _ _ _ _ h => h) ?hSbq ?hPbq ?hSq ?hopq ?hfinq
 case haFq =>
  intro vals
  simp only [fillAll, dAt, Act.put, List.setIfInBounds_toArray, List.set_cons_zero, List.set_cons_succ]
  exact rfl
 case hSbq => exact fun i l wx wy hi hl hR h => CaS.step hgq.out hl hR h
 case hPbq =>
  intro k j v wa wb hk hkj hb h
  match j, h with
  | 0, h => exact h
  | 1, h => exact h
  | 2, h => exact h
  | 3, h => exact h
  | 4, h => exact h
  | 5, h => exact h
  | 6, h => exact h
  | 7, h => exact h
  | 8, h => exact h
  | _ + 9, h => exact h
 case hSq => exact ⟨HX.out.drew, Kn.below (Below.refl _ _).drew, fun _ => HS.out.below (Below.refl _ _).drew, fun e => by cases e⟩
 case hopq =>
  refine .cons (k := 0) ?_ (.cons (k := 1) ?_ (.cons (k := 2) ?_ (.cons (k := 3) ?_ (.cons (k := 4) ?_ (.cons (k := 5) ?_ (.cons (k := 6) ?_ (.cons (k := 7) ?_ (.cons (k := 8) ?_ (.cons (k := 9) ?_ (.nil))))))))))
  all_goals intro vals wr l hl hS hd KC hKx
  all_goals (show Oper.wp _ _ _ _ _ _; dsimp only)
  · go_simp
    refine hKx _ _ rfl (CaR.of (Below.refl _ _) (by decide)) (by first | rfl | simp)
  · go_simp
    refine hKx _ _ rfl (CaR.of (Below.refl _ _) (by decide)) (by first | rfl | simp)
  · have d1 : vals 1 = _ := hd 1 (by decide +kernel)
    rw [d1]
    have z0 := hS.1.cell (k := 1) (v := .string (strOf t)) rfl
    go_simp
    refine hKx _ _ rfl (CaR.of (Below.refl _ _) (by decide)) (by first | rfl | simp)
  · have d2 : vals 2 = _ := hd 2 (by decide +kernel)
    rw [d2]
    have HSx := Lib.hid hS
    clear hS
    go_simp
    go_at_call 97
    refine (pJoinKind_c t hbt.out _).mono ?_
    rintro e w9 ⟨rfl, rfl⟩
    refine hKx _ _ rfl (CaR.of (Below.refl _ _) (by decide)) rfl
  · go_simp
    refine hKx _ _ rfl (CaR.of (Below.refl _ _) (by decide)) (by first | rfl | simp)
  · go_simp
    refine hKx _ _ rfl (CaR.of (Below.refl _ _) (by decide)) (by first | rfl | simp)
  · have d5 : vals 5 = _ := hd 5 (by decide +kernel)
    rw [d5]
    have HSx := Lib.hid hS
    clear hS
    go_simp
    go_at_call 95
    refine (pLast_c (rdw_any HSx.out)).mono ?_
    rintro e w9 ⟨rfl, rfl⟩
    refine hKx _ _ rfl (CaR.of (Below.refl _ _) (by decide)) rfl
  · go_simp
    refine hKx _ _ rfl (CaR.of (Below.refl _ _) (by decide)) (by first | rfl | simp)
  · have d7 : vals 7 = _ := hd 7 (by decide +kernel)
    rw [d7]
    have z0 := hS.1.cell (k := 2) (v := .int .i64 (a : Int)) rfl
    go_simp
    refine hKx _ _ rfl (CaR.of (Below.refl _ _) (by decide)) (by first | rfl | simp)
  · have d3 : vals 3 = _ := hd 3 (by decide +kernel)
    have d4 : vals 4 = _ := hd 4 (by decide +kernel)
    have d6 : vals 6 = _ := hd 6 (by decide +kernel)
    have d8 : vals 8 = _ := hd 8 (by decide +kernel)
    rw [d3, d4, d6, d8]
    refine wp_buildV _ _ rfl _ (by rfl) _ (Lib.hid (fun W => by kernel_rfl : ∀ W, (Instr.build 47 ([(0, .int .i64 (joiN t)), (1, .int .i64 (lastS st)), (2, .int .i64 (lastS (fS (rdS st)))), (6, .int .i64 (a : Int))] : List (Nat × Value)).toArray).run Tryz.prog W = .ok (.agg (ndC (joiN t) (lastS st) (lastS (fS (rdS st))) 0 ⟨#[]⟩ ⟨#[]⟩ (a : Int))) W)) ?_
    refine hKx _ _ rfl (CaR.of (Below.refl _ _) (by decide)) (by first | rfl | simp)
 case hfinq =>
  intro vals wr l hl hS hP
  have ez_0 : vals 0 = _ := hP 0 (by decide)
  have ez_9 : vals 9 = _ := hP 9 (by decide)
  have HSe : Hid (RdW wr B q en L (fS (rdS st))) := by
   cases hj : l 100 with
   | false => exact hS.2.2.1 hj
   | true => exact hS.2.2.2 hj
  have HKe := Lib.hid (HK0.out.trans hS.2.1)
  have hBe := Lib.hid (Nat.le_trans HBw.out HKe.out.size)
  clear hS hP hl
  try dsimp only
  rw [ez_0, ez_9]
  clear ez_0 ez_9
  refine wpAny_ready (rs := [10]) (by kernel_rfl) (by simp) (AllReady.cons rfl (fun KC hKC => ?_) AllReady.nil)
  go_simp
  go_at_call 96
  refine (pNode_c HSe.out hBe.out HFi.out ⟨joiN t, lastS st, lastS (fS (rdS st)), 0, ⟨#[]⟩, ⟨#[]⟩, (a : Int)⟩ _ rfl (fun _ => rfl)).mono ?_
  rintro e wN ⟨rfl, h9, k9⟩
  have HF := Lib.hid h9
  have HKf := Lib.hid (HKe.out.trans k9)
  refine hKC _ _ ?_
  clear hKC KC h9 k9 HSe HKe hBe
  refine wpAny_done (by kernel_rfl) ?_ _
  go_wp2
  go_end0
  have hst : joiK L fS st = nodS L ⟨joiN t, lastS st, lastS (fS (rdS st)), 0, ⟨#[]⟩, ⟨#[]⟩, (a : Int)⟩ (fS (rdS st)) := by unfold joiK; rw [hp.out]
  rw [hst]
  exact ⟨rfl, HF.out, HKf.out⟩
end
end Go.Proofs.YtheaepceghnkpaaGreatDoor
