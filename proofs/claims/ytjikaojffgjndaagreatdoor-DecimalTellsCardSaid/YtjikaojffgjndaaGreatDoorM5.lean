/- Part 5 of the texts that the statements of this seat lean on: mathematics, and what functions answer, as contracts over memory; each part says its own conditions. -/
import Derived.Test.YtjikaojffgjndaaGreatDoorM4
import Derived.Laws.BitsAllLaws
import Derived.Deep.RegionWith
/- Mathematics of what calls on rational numbers tell: a number or none, and the error beside it. No condition. -/
namespace Go.Proofs.YtjikaojffgjndaaGreatDoor
open Go.RowKit Limb
set_option linter.unusedVariables false
theorem whole_fits {v : Int} (h0 : -9223372036854775808 ≤ v) (h1 : v ≤ 9223372036854775807) : fitsQ (v : Rat) = true := by
 simp only [fitsQ, Bool.and_eq_true, decide_eq_true_eq]
 have e : (4294967296 : Nat) ^ 2 ≤ 4294967296 ^ 64 := Nat.pow_le_pow_right (by decide) (by decide)
 have e1 : ((v : Rat)).num = v := rfl
 have e2 : ((v : Rat)).den = 1 := rfl
 rw [e1, e2]
 omega
theorem neg_fits {q : Rat} (h : fitsQ q = true) : fitsQ (-q) = true := by
 unfold fitsQ at h ⊢
 rw [(neg_top q).1, (neg_top q).2, Int.natAbs_neg]; exact h
def opR (f : Rat → Rat → Option Rat × Int) : Option Rat → Option Rat → Option Rat × Int
 | some p, some q => f p q
 | _, _ => (none, 1)
def limR (q : Rat) : Option Rat × Int := (limQ q, limE q)
def addR : Option Rat → Option Rat → Option Rat × Int := opR fun p q => limR (p + q)
def subR : Option Rat → Option Rat → Option Rat × Int := opR fun p q => limR (p - q)
def divR : Option Rat → Option Rat → Option Rat × Int := opR fun p q => if q.num = 0 then (none, 3) else limR (p / q)
def ofR (x : Int) (b : Nat) : Option Rat × Int := if b = 0 then (none, 3) else limR (mkRat x b)
def cmpR : Option Rat → Option Rat → Int
 | some p, some q => cmpQ p q
 | _, _ => 0
theorem limR_yes {q : Rat} (h : fitsQ q = true) : limR q = (some q, 0) := by unfold limR; rw [limQ_yes h, limE_yes h]
theorem limR_fits {q : Rat} {k l : Nat} (h : Bd q k l) (hk : k ≤ 64) (hl : l ≤ 64) : limR q = (some q, 0) := limR_yes (h.fits hk hl)
theorem sub_mk (p q : Rat) : p - q = mkRat (p.num * (q.den : Int) + -(q.num * (p.den : Int))) (p.den * q.den) := by
 rw [Rat.sub_eq_add_neg, add_mk, (neg_top q).1, (neg_top q).2, Int.neg_mul]
theorem zz_sg (x : Int) : zOf (sg x) x.natAbs = x := by
 unfold zOf sg
 by_cases h : x < 0
 · simp [h]; omega
 · simp [h]; omega
theorem zz_div {s : Bool} {x : Int} {b : Nat} (hs : zOf s x.natAbs = x) (hb : b ≠ 0) : zOf s (x.natAbs / Nat.gcd x.natAbs b) = (mkRat x b).num := by
 obtain ⟨m1, m2⟩ := mk_num (x := x) hb
 rw [← m1]
 by_cases h0 : x = 0
 · have e : (mkRat x b).num.natAbs = 0 := by rw [m1, h0]; simp
   rw [e]
   have : (mkRat x b).num = 0 := by omega
   rw [this]; unfold zOf; split <;> rfl
 · have e : s = sg x := by
    cases s with
    | true => symm; apply sg_neg; unfold zOf at hs; rw [if_pos rfl] at hs; omega
    | false => symm; apply sg_pos; unfold zOf at hs; rw [if_neg (by decide)] at hs; omega
   rw [e, ← m2, zz_sg]
theorem ZZ.zo {w : World} {s : Bool} {A : Option Addr} {n c : Nat} {xs : List Nat} {x : Int} {L : Nat} (h : ZZ w s A n c xs x L) : zOf s x.natAbs = x := h.sgn.symm
theorem zz_pos {w : World} {B : Option Addr} {m d : Nat} {ys : List Nat} {b L : Nat} (h : NN w B m d ys b L) : ZZ w false B m d ys (b : Int) L := ⟨by rw [Int.natAbs_natCast]; exact h, by simp⟩
theorem zz_none (w : World) : ZZ w false none 0 0 [] 0 0 := ⟨⟨IsN.nil _ _, rfl, Nat.le_refl _, Nat.zero_le _⟩, rfl⟩
theorem len_fits (a : Nat) : (limbs a).length ≤ 64 ↔ a < 4294967296 ^ 64 := by
 constructor
 · intro h
   rcases Nat.lt_or_ge a (4294967296 ^ 64) with h2 | h2
   · exact h2
   · have := lt_length_limbs h2; omega
 · exact fun h => length_limbs_le h
theorem fits_len (q : Rat) {n m : Nat} (hn : (limbs q.num.natAbs).length = n) (hm : (limbs q.den).length = m) : (decide (n ≤ 64) && decide (m ≤ 64)) = fitsQ q := by
 subst hn; subst hm
 unfold fitsQ
 rw [decide_eq_decide.2 (len_fits q.num.natAbs), decide_eq_decide.2 (len_fits q.den)]
theorem ofR_zero {x : Int} {b : Nat} {r : Option Rat} {e : Int} (hb : b = 0) (h : ofR x b = (r, e)) : r = none ∧ e = 3 := by
 unfold ofR at h; rw [if_pos hb] at h; cases h; exact ⟨rfl, rfl⟩
theorem ofR_yes {x : Int} {b : Nat} {r : Option Rat} {e : Int} (hb : b ≠ 0) (h : ofR x b = (r, e)) : limR (mkRat x b) = (r, e) := by
 unfold ofR at h; rwa [if_neg hb] at h
theorem limR_no {q : Rat} (h : fitsQ q = false) : limR q = (none, 2) := by unfold limR; rw [limQ_no h, limE_no h]
def Over (w0 : World) (q : Nat) (w : World) : Prop := w0.heap.size ≤ q
theorem Over.below {w0 w w' : World} {q : Nat} (h : Over w0 q w) (hb : Below w.heap.size w w') : Over w0 q w' := h
theorem QQ.fillR3 {w : World} {s : Bool} {A : Option Addr} {n c : Nat} {xs : List Nat} {B : Option Addr} {m d : Nat} {ys : List Nat} {o : Option Rat} {L g : Nat} (h : QQ w s A n c xs B m d ys o L) (hg : NoLimb w g) (x y z : Value) :
 QQ (((w.setCell ⟨g, 0, Option.none⟩ x).setCell ⟨g, 1, Option.none⟩ y).setCell ⟨g, 2, Option.none⟩ z) s A n c xs B m d ys o L := ⟨h.top.fillR3 hg x y z, h.bot.fillR3 hg x y z, h.rd⟩
theorem QQ.fillR4 {w : World} {s : Bool} {A : Option Addr} {n c : Nat} {xs : List Nat} {B : Option Addr} {m d : Nat} {ys : List Nat} {o : Option Rat} {L g : Nat} (h : QQ w s A n c xs B m d ys o L) (hg : NoLimb w g) (x y z v : Value) :
 QQ ((((w.setCell ⟨g, 0, Option.none⟩ x).setCell ⟨g, 1, Option.none⟩ y).setCell ⟨g, 2, Option.none⟩ z).setCell ⟨g, 3, Option.none⟩ v) s A n c xs B m d ys o L := ⟨h.top.fillR4 hg x y z v, h.bot.fillR4 hg x y z v, h.rd⟩
end Go.Proofs.YtjikaojffgjndaaGreatDoor

/- Mathematics of the statements of stage 7: which sums, products and quotients have room, and what they are. No condition. -/
namespace Go.Proofs.YtjikaojffgjndaaGreatDoor
open Go.RowKit Limb
set_option linter.unusedVariables false
theorem QQ.of {w : World} {s : Bool} {A : Option Addr} {n c : Nat} {xs : List Nat} {B : Option Addr} {m d : Nat} {ys : List Nat} {K : Nat} (i : IsN w A n xs) (hc : n ≤ c) (j : IsN w B m ys) (kc : m ≤ d) (h : n ≤ K) (h' : m ≤ K) : QQ w s A n c xs B m d ys (readQ s xs ys) K :=
 ⟨ZZ.of ⟨i, rfl, hc, h⟩, ⟨j, rfl, kc, h'⟩, rfl⟩
theorem qq_told {w : World} {s : Bool} {A : Option Addr} {n c : Nat} {xs : List Nat} {B : Option Addr} {m d : Nat} {ys : List Nat} {q : Rat} {L : Nat} (h : QQ w s A n c xs B m d ys (some q) L) :
 s = sg (oTop (some q)) ∧ xs = limbs (oTop (some q)).natAbs ∧ ys = limbs (oBot (some q)) ∧ QQ w s A n c xs B m d ys (some q) 64 ∧ n ≤ 64 ∧ m ≤ 64 ∧ Bd q n m := by
 obtain ⟨h1, h2, h3, h4, h5, h6, h7⟩ := h.some
 have hn := h5.nn.isN.len
 have hm := h6.isN.len
 obtain ⟨_, _, _, _, l1, l2, _⟩ := goodV_iff.1 h7
 have v1 := val_lt h5.nn.isN.small
 have v2 := val_lt h6.isN.small
 rw [h5.nn.val, hn] at v1
 rw [h6.val, hm] at v2
 exact ⟨h1, h2, h3, ⟨h.top.nn.short (by omega) |> fun t => ⟨t, h.top.sgn⟩, h.bot.short (by omega), h.rd⟩, by omega, by omega, v1, v2⟩
theorem add_is {p q z : Rat} {k l : Nat} (e : p + q = z) (h : Bd z k l) (hk : k ≤ 64) (hl : l ≤ 64) : addR (some p) (some q) = (some z, 0) := by
 show limR (p + q) = _
 rw [e]; exact limR_fits h hk hl
theorem sub_is {p q z : Rat} {k l : Nat} (e : p - q = z) (h : Bd z k l) (hk : k ≤ 64) (hl : l ≤ 64) : subR (some p) (some q) = (some z, 0) := by
 show limR (p - q) = _
 rw [e]; exact limR_fits h hk hl
theorem num_ne {q : Rat} (h : q.num ≠ 0) : q ≠ 0 := fun e => h (by rw [e]; rfl)
theorem Row3.set {w : World} {g g' : Nat} {T : TypeId} {a b c : Value} (h : Row3 w g' T a b c) (hne : g ≠ g') (o : Nat) (v : Value) : Row3 (w.setCell ⟨g, o, Option.none⟩ v) g' T a b c := by
 unfold Row3 at h ⊢
 simp only [World.setCell, Array.getElem?_modify]
 rw [if_neg hne]; exact h
theorem Row4.set {w : World} {g g' : Nat} {T : TypeId} {a b c d : Value} (h : Row4 w g' T a b c d) (hne : g ≠ g') (o : Nat) (v : Value) : Row4 (w.setCell ⟨g, o, Option.none⟩ v) g' T a b c d := by
 unfold Row4 at h ⊢
 simp only [World.setCell, Array.getElem?_modify]
 rw [if_neg hne]; exact h
theorem keep_self3 (s : Bool) (xs ys : List Nat) : (decide (s = s) && same xs xs && same ys ys) = true := by rw [same_self, same_self]; simp
end Go.Proofs.YtjikaojffgjndaaGreatDoor

/- What package whole's own helpers answer (signed, isBelow), and strings.CutPrefix of a minus sign, as contracts over memory. Conditions: sizes of at most so many limbs. -/
namespace Go.Proofs.YtjikaojffgjndaaGreatDoor
open Go.RowKit Limb
set_option linter.unusedVariables false
theorem len_limbs_zero {a : Nat} : (limbs a).length = 0 ↔ a = 0 := by
 constructor
 · intro h
   have h2 := val_limbs a
   rw [List.eq_nil_of_length_eq_zero h] at h2
   exact h2.symm
 · rintro rfl; rw [limbs_zero]; rfl
theorem results_mixed {P : Program} {fn : Func} {p q : Tmp} {ty : TypeId} (h : fn.results = #[.cell p ty, .tmp q]) (tmps : Array Value) (w : World) (g : Nat) (t : TypeId) (cs : Array Value) (fr : Nat × Nat) (d : TypeDesc) (v : Value)
 (hp : tmps.getD p undef = .pointer (some ⟨g, 0, none⟩)) (hq : tmps.getD q undef = v) (hg : w.heap[g]? = some (.cells cs t fr))
 (hu : P.underlying ty = some d) (hd : (match d with | .struct _ | .array _ _ => true | _ => false) = true) (hi : (P.info? ty).map (·.size) = some cs.size) :
 (results fn tmps).run P w = .ok (.tuple #[.agg cs, v]) w := by
 have hp' : tmps[p]?.getD undef = .pointer (some ⟨g, 0, none⟩) := by simpa using hp
 have hq' : tmps[q]?.getD undef = v := by simpa using hq
 simp [results, h, hp', hq', asAddr, run_loadVar_row w g t ty cs fr d hg hu hd hi]
section
variable {w : World} {s s' : Bool} {A A' : Option Addr} {n c n' c' : Nat} {xs ys : List Nat} {x y : Int} {L L' : Nat}
theorem signed_c {a : Nat} (hx : NN w A n c (limbs a) a L) (b : Bool) (z : Int) (hz : zOf b a = z) :
 Calls Tryz.prog 88 #[.bool b, .slice A n c] w fun e w' => e = .returned (.agg #[.bool (sg z), .slice A n c]) ∧ ZZ w' (sg z) A n c (limbs z.natAbs) z L ∧ Below w.heap.size w w' := by
 have ez : z.natAbs = a := by rw [← hz, zOf_abs]
 have hn : n = 0 ↔ a = 0 := by rw [← hx.isN.len]; exact len_limbs_zero
 have HZ : RowKit.Hid (ZZ w (sg z) A n c (limbs z.natAbs) z L) := ZZ.mk' (by rw [ez]; exact hx)
 clear hx
 by_cases hb : b = true
 · subst hb
   by_cases h0 : a = 0
   · have es : sg z = false := by rw [← hz, h0]; rfl
     obtain rfl : n = 0 := hn.2 h0
     rw [es] at HZ ⊢
     clear es hn ez hz h0
     go_enter Tryz.func88, Tryz.ntmps88
     go_wp2
     refine bodyPost_ret (results_cell_row rfl _ _ w.heap.size 25 #[.bool false, .slice A 0 c] (0, 0) _ rfl (row2_new w _ _ _) Tryz.underlying25 rfl int_size) rfl ?_
     exact ⟨rfl, HZ.out.below (below_new _ _), below_new _ _⟩
   · have es : sg z = true := by
      rw [← hz]; apply sg_neg
      unfold zOf; rw [if_pos rfl]; omega
     have Hp : RowKit.Hid (decide (0 < n) = true) := by
      have : n ≠ 0 := fun h => h0 (hn.1 h)
      show _ = _
      rw [decide_eq_true_eq]; omega
     rw [es] at HZ ⊢
     clear es hn ez hz h0
     go_enter Tryz.func88, Tryz.ntmps88
     go_wp2
     refine bodyPost_ret (results_cell_row rfl _ _ w.heap.size 25 #[.bool (decide (0 < n)), .slice A n c] (0, 0) _ rfl (row2_new w _ _ _) Tryz.underlying25 rfl int_size) rfl ?_
     exact ⟨by rw [Hp.out], HZ.out.below (below_new _ _), below_new _ _⟩
 · have hb2 : b = false := by simpa using hb
   subst hb2
   have es : sg z = false := by rw [← hz]; apply sg_pos; unfold zOf; simp
   rw [es] at HZ ⊢
   clear es hn ez hz hb
   go_enter Tryz.func88, Tryz.ntmps88
   go_wp2
   refine bodyPost_ret (results_cell_row rfl _ _ w.heap.size 25 #[.bool false, .slice A n c] (0, 0) _ rfl (row2_new w _ _ _) Tryz.underlying25 rfl int_size) rfl ?_
   exact ⟨rfl, HZ.out.below (below_new _ _), below_new _ _⟩
theorem isBelow_c (hx : ZZ w s A n c xs x L) (h1 : L ≤ 1000000000) (v : Bool) (hv : sg x = v) :
 Calls Tryz.prog 91 #[.agg #[.bool s, .slice A n c]] w fun e w' => e = .returned (.bool v) ∧ Below w.heap.size w w' := by
 have b1 := below_new w (.cells #[Value.bool s, Value.slice A n c] 25)
 have r1 := row2_new w 25 (.bool s) (.slice A n c)
 have HN := Lib.hid (hx.nn.below b1)
 have HB := Lib.hid b1
 have hc0 := r1.c0
 have hc1 := r1.c1
 have hsg := hx.sgn
 clear b1 r1 hx
 cases s with
 | false =>
  have ev : v = false := by rw [← hv]; apply sg_pos; rw [hsg]; simp
  subst ev
  clear hsg hv
  go_enter Tryz.func91, Tryz.ntmps91
  go_wp2
  go_ret
  exact ⟨rfl, HB.out⟩
 | true =>
  have ev : decide ((0 : Int) < ((blen x.natAbs : Nat) : Int)) = v := by
   rw [← hv]
   unfold sg
   rw [if_pos rfl] at hsg
   rw [decide_eq_decide]
   have h2 : blen x.natAbs = 0 ↔ x.natAbs = 0 := blen_eq_zero
   omega
  obtain ⟨m, hm⟩ : ∃ m, ((blen x.natAbs : Nat) : Int) = m := ⟨_, rfl⟩
  rw [hm] at ev
  have Hm := Lib.hid hm
  clear hsg hv hm
  go_enter Tryz.func91, Tryz.ntmps91
  go_wp2_with fail
  refine (bits_c HN.out h1 m Hm.out).mono ?_
  rintro e w2 ⟨rfl, rfl⟩
  by_cases hp : 0 < m
  · have ev2 : v = true := by rw [← ev]; simp [hp]
    subst ev2
    go_wp2
    go_ret
    exact ⟨rfl, HB.out⟩
  · have ev2 : v = false := by rw [← ev]; simp; omega
    subst ev2
    go_wp2
    go_ret
    exact ⟨rfl, HB.out⟩
end
theorem bytesOf_tail {S : ByteArray} (h : 1 ≤ S.size) : bytesOf (S.extract 1 S.size) = (bytesOf S).tail := by
 unfold bytesOf
 rw [ByteArray.data_extract, Array.toList_extract, List.extract_eq_take_drop, List.map_take, List.map_drop, List.drop_one]
 refine List.take_of_length_le ?_
 rw [List.length_tail, List.length_map, Array.length_toList]
 exact Nat.le_refl _
theorem bytesOf_first {S : ByteArray} : bytesOf (S.extract 0 1) = (bytesOf S).take 1 := by
 unfold bytesOf
 rw [ByteArray.data_extract, Array.toList_extract, List.extract_eq_take_drop, List.map_take, List.map_drop]
 rfl
theorem head_minus (S : ByteArray) : ((S.extract 0 1).toList == (⟨#[45]⟩ : ByteArray).toList) = decide ((bytesOf S).head? = some 45) := by
 have e1 : S.extract 0 1 = strOf ((bytesOf S).take 1) := by rw [← bytesOf_first, strOf_bytesOf]
 have e2 : (⟨#[45]⟩ : ByteArray) = strOf [45] := rfl
 rw [e1, e2, str_beq (bytes_take (bytes_bytesOf S) 1) (bytes_cons.2 ⟨by decide, bytes_nil⟩), decide_eq_decide]
 cases bytesOf S with
 | nil => simp
 | cons x l => simp
theorem hasMinus_c (S : ByteArray) (v : Bool) (hv : decide ((bytesOf S).head? = some 45) = v) (w : World) :
 Calls Tryz.prog 162 #[.string S, .string ⟨#[45]⟩] w fun e w' => e = .returned (.bool v) ∧ w = w' := by
 by_cases h0 : S.size = 0
 · have ev : v = false := by
    rw [← hv, List.eq_nil_of_length_eq_zero ((length_bytesOf S).trans h0)]; rfl
   subst ev
   have h1 : (S.size : Int) < 1 := by omega
   clear hv h0
   go_enter Tryz.func162, Tryz.ntmps162
   go_wp2
   go_ret
   exact ⟨rfl, rfl⟩
 · have h1 : (1 : Int) ≤ (S.size : Int) := by omega
   have h2 : 1 ≤ S.size := by omega
   rw [← head_minus] at hv
   obtain ⟨G, hG⟩ : ∃ G, S.extract 0 1 = G := ⟨_, rfl⟩
   rw [hG] at hv
   have e45 : (⟨#[45]⟩ : ByteArray).toList = [45] := toList_strOf [45]
   rw [e45] at hv
   have HV := Lib.hid hv
   clear h0 hv e45
   go_enter Tryz.func162, Tryz.ntmps162
   go_wp2
   go_ret
   exact ⟨by show Ending.returned (Value.bool (G.toList == [45])) = _; rw [HV.out], rfl⟩
theorem cutLite_yes (S : ByteArray) (h : (bytesOf S).head? = some 45) (w : World) :
 Calls Tryz.prog 138 #[.string S, .string ⟨#[45]⟩] w fun e w' => ∃ R : ByteArray, e = .returned (.tuple #[.string R, .bool true]) ∧ bytesOf R = (bytesOf S).tail ∧ w = w' := by
 have h0 : S.size ≠ 0 := by
  intro h0
  rw [List.eq_nil_of_length_eq_zero ((length_bytesOf S).trans h0)] at h
  cases h
 have h1 : (1 : Int) ≤ (S.size : Int) := by omega
 have h2 : 1 ≤ S.size := by omega
 have HT := Lib.hid (bytesOf_tail h2)
 have HC := Lib.hid (hasMinus_c S true (by rw [h]; rfl) w)
 obtain ⟨R, hR⟩ : ∃ R, S.extract 1 S.size = R := ⟨_, rfl⟩
 rw [hR] at HT
 clear h h0
 go_enter Tryz.func138, Tryz.ntmps138
 go_wp2_with fail
 refine HC.out.mono ?_
 rintro e w2 ⟨rfl, rfl⟩
 go_wp2
 go_ret2
 exact ⟨R, rfl, HT.out, rfl⟩
theorem cutLite_no (S : ByteArray) (h : (bytesOf S).head? ≠ some 45) (w : World) :
 Calls Tryz.prog 138 #[.string S, .string ⟨#[45]⟩] w fun e w' => e = .returned (.tuple #[.string S, .bool false]) ∧ w = w' := by
 have HC := Lib.hid (hasMinus_c S false (by simpa using h) w)
 clear h
 go_enter Tryz.func138, Tryz.ntmps138
 go_wp2_with fail
 refine HC.out.mono ?_
 rintro e w2 ⟨rfl, rfl⟩
 go_wp2
 go_ret2
 exact ⟨rfl, rfl⟩
theorem cutMinus_yes (S : ByteArray) (h : (bytesOf S).head? = some 45) (w : World) :
 Calls Tryz.prog 94 #[.string S, .string ⟨#[45]⟩] w fun e w' => ∃ R : ByteArray, e = .returned (.tuple #[.string R, .bool true]) ∧ bytesOf R = (bytesOf S).tail ∧ w = w' := by
 have HC := Lib.hid (cutLite_yes S h w)
 clear h
 go_enter Tryz.func94, Tryz.ntmps94
 go_wp2_with fail
 refine HC.out.mono ?_
 rintro e w2 ⟨R, rfl, hR, rfl⟩
 have HR := Lib.hid hR
 clear hR
 go_wp2
 go_ret2
 exact ⟨R, rfl, HR.out, rfl⟩
theorem cutMinus_no (S : ByteArray) (h : (bytesOf S).head? ≠ some 45) (w : World) :
 Calls Tryz.prog 94 #[.string S, .string ⟨#[45]⟩] w fun e w' => e = .returned (.tuple #[.string S, .bool false]) ∧ w = w' := by
 have HC := Lib.hid (cutLite_no S h w)
 clear h
 go_enter Tryz.func94, Tryz.ntmps94
 go_wp2_with fail
 refine HC.out.mono ?_
 rintro e w2 ⟨rfl, rfl⟩
 go_wp2
 go_ret2
 exact ⟨rfl, rfl⟩
end Go.Proofs.YtjikaojffgjndaaGreatDoor

/- What package whole answers, as contracts over memory: whole numbers in the shortest limbs, 0 not below 0. Conditions: sizes of at most so many limbs; the table of powers of ten where texts are made or read. -/
namespace Go.Proofs.YtjikaojffgjndaaGreatDoor
open Go.RowKit Limb
set_option linter.unusedVariables false
theorem ZZ.zof {w : World} {s : Bool} {A : Option Addr} {n c : Nat} {xs : List Nat} {x : Int} {L : Nat} (h : ZZ w s A n c xs x L) : zOf s x.natAbs = x := h.sgn.symm
theorem zOf_not {s : Bool} {a : Nat} {x : Int} (h : zOf s a = x) : zOf (!s) a = -x := by
 subst h; cases s <;> simp [zOf]
theorem zOf_add {s : Bool} {a b : Nat} {x y : Int} (h : zOf s a = x) (k : zOf s b = y) : zOf s (a + b) = x + y := by
 subst h; subst k; cases s <;> simp [zOf] <;> omega
theorem zOf_sub {s s' : Bool} {a b : Nat} {x y : Int} (h : zOf s a = x) (k : zOf s' b = y) (hs : s ≠ s') (hab : b ≤ a) : zOf s (a - b) = x + y := by
 subst h; subst k; cases s <;> cases s' <;> simp [zOf] at hs ⊢ <;> omega
theorem zOf_mul {s s' : Bool} {a b : Nat} {x y : Int} (h : zOf s a = x) (k : zOf s' b = y) : zOf (s != s') (a * b) = x * y := by
 subst h; subst k; cases s <;> cases s' <;> simp [zOf, Int.neg_mul, Int.mul_neg]
theorem cmp_abs_neg {x y : Int} (hx : x < 0) (hy : y < 0) : cmpI y.natAbs x.natAbs = cmpZ x y := by
 rcases Int.lt_trichotomy x y with h | h | h
 · rw [cmpZ_lt h, cmpI_lt (by omega)]
 · rw [cmpZ_eq h, cmpI_same (by omega)]
 · rw [cmpZ_gt h, cmpI_gt (by omega)]
theorem cmp_abs_pos {x y : Int} (hx : 0 ≤ x) (hy : 0 ≤ y) : cmpI x.natAbs y.natAbs = cmpZ x y := by
 rcases Int.lt_trichotomy x y with h | h | h
 · rw [cmpZ_lt h, cmpI_lt (by omega)]
 · rw [cmpZ_eq h, cmpI_same (by omega)]
 · rw [cmpZ_gt h, cmpI_gt (by omega)]
theorem conv_u64 {v : Int} (h : -9223372036854775808 ≤ v) (h1 : v ≤ 9223372036854775807) : IntKind.u64.wrap v = if v < 0 then v + 18446744073709551616 else v := by
 rw [IntKind.wrap_u64]; split <;> omega
theorem zz_zof {v : Int} : zOf (decide (v < 0)) v.natAbs = v := by
 unfold zOf
 by_cases h : v < 0
 · simp [h]; omega
 · simp [h]; omega
end Go.Proofs.YtjikaojffgjndaaGreatDoor

/- What package whole's Add answers, as a contract over memory: whole numbers in the shortest limbs, 0 not below 0. Conditions: sizes of at most so many limbs; the table of powers of ten where texts are made or read. -/
namespace Go.Proofs.YtjikaojffgjndaaGreatDoor
open Go.RowKit Limb
set_option linter.unusedVariables false
section
variable {w : World} {s s' : Bool} {A A' : Option Addr} {n c n' c' : Nat} {xs ys : List Nat} {x y : Int} {L L' : Nat}
set_option maxHeartbeats 4000000 in
set_option maxRecDepth 100000 in
theorem wAdd_c (hx : ZZ w s A n c xs x L) (hy : ZZ w s' A' n' c' ys y L') (K : Nat) (h1 : L < K) (h2 : L' < K) (h3 : K ≤ 100000) (z : Int) (hz : x + y = z) :
 Calls Tryz.prog 76 #[.agg #[.bool s, .slice A n c], .agg #[.bool s', .slice A' n' c']] w fun e w' => ∃ A2 n2 c2, e = .returned (.agg #[.bool (sg z), .slice A2 n2 c2]) ∧ ZZ w' (sg z) A2 n2 c2 (limbs z.natAbs) z K ∧ Below w.heap.size w w' := by
 have HX := Lib.hid hx.zof
 have HY := Lib.hid hy.zof
 by_cases hs : s = s'
 · subst hs
   have HS : RowKit.Hid (zOf s (x.natAbs + y.natAbs) = z) := (zOf_add HX.out HY.out).trans hz
   clear hz HX HY
   have b0 := below_new w (.cells #[Value.bool s, Value.slice A n c] 25)
   have b1 := below_new (w.alloc (.cells #[Value.bool s, Value.slice A n c] 25)) (.cells #[Value.bool s, Value.slice A' n' c'] 25)
   have bz := below_new ((w.alloc (.cells #[Value.bool s, Value.slice A n c] 25)).alloc (.cells #[Value.bool s, Value.slice A' n' c'] 25)) zbox
   have HW := Lib.hid (below_two (below_two b0 b1) bz)
   have HN := Lib.hid (hx.nn.below HW.out)
   have HM := Lib.hid (hy.nn.below HW.out)
   have r0 := ((row2_new w 25 (.bool s) (.slice A n c)).below b1).below bz
   have r1 := (row2_new (w.alloc (.cells #[Value.bool s, Value.slice A n c] 25)) 25 (.bool s) (.slice A' n' c')).below bz
   have rz : ZB (((w.alloc (.cells #[Value.bool s, Value.slice A n c] 25)).alloc (.cells #[Value.bool s, Value.slice A' n' c'] 25)).alloc zbox) ((w.alloc (.cells #[Value.bool s, Value.slice A n c] 25)).alloc (.cells #[Value.bool s, Value.slice A' n' c'] 25)).heap.size := row2_new ((w.alloc (.cells #[Value.bool s, Value.slice A n c] 25)).alloc (.cells #[Value.bool s, Value.slice A' n' c'] 25)) _ _ _
   simp only [World.size_alloc] at r1 rz
   clear b0 b1 bz hx hy
   go_enter Tryz.func76, Tryz.ntmps76
   go_wp2_with fail
   generalize ((w.alloc (.cells #[Value.bool s, Value.slice A n c] 25)).alloc (.cells #[Value.bool s, Value.slice A' n' c'] 25)).alloc zbox = w1 at *
   have HR0 := Lib.hid r0
   have c00 := r0.c0
   have c01 := r0.c1
   have HR1 := Lib.hid r1
   have c10 := r1.c0
   have c11 := r1.c1
   have HZ := Lib.hid rz
   clear r0 r1 rz
   clear c00 c01 c10 c11
   refine region_free 8 1 [14, 15, 16, 17, 18, 19, 20, 21] ?aF (fun wx => Below w1.heap.size w1 wx) (fun k v wx => match k with
    | 0 => v = .pointer (some ⟨w.heap.size, 0, none⟩)
    | 1 => v = .bool s
    | 2 => v = .pointer (some ⟨w.heap.size, 1, none⟩)
    | 3 => v = .slice A n c
    | 4 => v = .pointer (some ⟨w.heap.size + 1, 1, none⟩)
    | 5 => v = .slice A' n' c'
    | 6 => ∃ A2 n2 c2, v = .slice A2 n2 c2 ∧ NN wx A2 n2 c2 (limbs (x.natAbs + y.natAbs)) (x.natAbs + y.natAbs) K
    | _ => ∃ A2 n2 c2, v = .agg #[.bool (sg z), .slice A2 n2 c2] ∧ ZZ wx (sg z) A2 n2 c2 (limbs z.natAbs) z K)
    (fun _ => false) (by kernel_rfl) ?haF rfl (by kernel_rfl) (by kernel_rfl) (fun _ _ _ _ _ h => h) ?hSb ?hPb ?hS ?hop ?hfin
   case haF =>
    intro vals
    simp only [fillAll, List.getElem?_cons_zero, List.getElem?_cons_succ, Act.put, List.setIfInBounds_toArray, List.set_cons_zero, List.set_cons_succ]
    exact rfl
   case hSb => exact fun wx w2 hb hS => below_two hS hb
   case hPb =>
    intro k v wa wb hb h
    match k, h with
    | 0, h => exact h
    | 1, h => exact h
    | 2, h => exact h
    | 3, h => exact h
    | 4, h => exact h
    | 5, h => exact h
    | 6, ⟨A2, n2, c2, h1, h2⟩ => exact ⟨A2, n2, c2, h1, h2.below hb⟩
    | _ + 7, ⟨A2, n2, c2, h1, h2⟩ => exact ⟨A2, n2, c2, h1, h2.below hb⟩
   case hS => exact (Below.refl _ _).drew
   case hop =>
    refine .cons (k := 0) ?_ (.cons (k := 1) ?_ (.cons (k := 2) ?_ (.cons (k := 3) ?_ (.cons (k := 4) ?_ (.cons (k := 5) ?_ (.cons (k := 6) ?_ (.cons (k := 7) ?_ (.nil))))))))
    all_goals intro vals wr hS hd KC hK
    all_goals (show Oper.wp _ _ _ _ _ _; dsimp only)
    · go_simp
      refine hK _ _ rfl (Below.refl _ _) rfl (fun h => by cases h)
    · have d0 : vals 0 = _ := hd 0 (by decide +kernel)
      rw [d0]
      have c0 := (HR0.out.below hS).c0
      go_simp
      refine hK _ _ rfl (Below.refl _ _) rfl (fun h => by cases h)
    · go_simp
      refine hK _ _ rfl (Below.refl _ _) rfl (fun h => by cases h)
    · have d2 : vals 2 = _ := hd 2 (by decide +kernel)
      rw [d2]
      have c0 := (HR0.out.below hS).c1
      go_simp
      refine hK _ _ rfl (Below.refl _ _) rfl (fun h => by cases h)
    · go_simp
      refine hK _ _ rfl (Below.refl _ _) rfl (fun h => by cases h)
    · have d4 : vals 4 = _ := hd 4 (by decide +kernel)
      rw [d4]
      have c0 := (HR1.out.below hS).c1
      go_simp
      refine hK _ _ rfl (Below.refl _ _) rfl (fun h => by cases h)
    · have d3 : vals 3 = _ := hd 3 (by decide +kernel)
      have d5 : vals 5 = _ := hd 5 (by decide +kernel)
      rw [d3, d5]
      go_simp
      go_at_call 96
      with_reducible refine (add_c (HN.out.below hS) (HM.out.below hS) K h1 h2 (by omega)).mono ?_
      rintro e w2 ⟨A_r, n_r, c_r, rfl, h_r, bn_r⟩
      refine hK _ _ rfl bn_r ⟨_, _, _, rfl, h_r⟩ (fun h => by cases h)
    · have d1 : vals 1 = _ := hd 1 (by decide +kernel)
      obtain ⟨A_m, n_m, c_m, d6, h_m⟩ := hd 6 (by decide +kernel)
      rw [d1, d6]
      go_simp
      go_at_call 88
      with_reducible refine (signed_c h_m _ z (by first | exact HS.out | simpa using HS.out)).mono ?_
      rintro e w2 ⟨rfl, h_r, bn_r⟩
      refine hK _ _ rfl bn_r ⟨_, _, _, rfl, h_r⟩ (fun h => by cases h)
   case hfin =>
    intro vals wr hS hP hne
    obtain ⟨A2, n2, c2, ez, h3⟩ := hP 7 (by decide)
    have hZ3 := HZ.out.below hS
    obtain ⟨e0, e1, f0, f1⟩ := hZ3.cells
    try dsimp only
    rw [ez]
    have HF := Lib.hid (hZ3.fill (.bool (sg z)) (.slice A2 n2 c2))
    have HP := Lib.hid (h3.put hZ3 (.bool (sg z)) (.slice A2 n2 c2))
    have HB := Lib.hid (below_fill (g := w.heap.size + 1 + 1) (below_two HW.out hS) (by omega) (.bool (sg z)) (.slice A2 n2 c2))
    refine wpAny_ready (rs := [8]) (by kernel_rfl) (by simp) (AllReady.cons rfl (fun KC hK => ?_) AllReady.nil)
    go_simp
    refine hK _ _ ?_
    clear hK KC
    refine wpAny_done (by kernel_rfl) ?_ _
    go_wp2
    refine bodyPost_ret (results_cell_row rfl _ _ (w.heap.size + 1 + 1) 25 #[.bool (sg z), .slice A2 n2 c2] (0, 0) _ rfl HF.out Tryz.underlying25 rfl int_size) rfl ?_
    exact ⟨A2, n2, c2, rfl, HP.out, HB.out⟩
 · by_cases hab : y.natAbs ≤ x.natAbs
   · have HS : RowKit.Hid (zOf s (x.natAbs - y.natAbs) = z) := (zOf_sub HX.out HY.out hs hab).trans hz
     have HK : RowKit.Hid (x.natAbs - y.natAbs < 4294967296 ^ K) := Nat.lt_of_le_of_lt (Nat.sub_le _ _) (Nat.lt_of_lt_of_le (lt_pow hx.nn) (Nat.pow_le_pow_right (by decide) (by omega)))
     clear hz HX HY
     have hs2 : (s == s') = false := by simpa using hs
     clear hs
     have b0 := below_new w (.cells #[Value.bool s, Value.slice A n c] 25)
     have b1 := below_new (w.alloc (.cells #[Value.bool s, Value.slice A n c] 25)) (.cells #[Value.bool s', Value.slice A' n' c'] 25)
     have bz := below_new ((w.alloc (.cells #[Value.bool s, Value.slice A n c] 25)).alloc (.cells #[Value.bool s', Value.slice A' n' c'] 25)) zbox
     have HW := Lib.hid (below_two (below_two b0 b1) bz)
     have HN := Lib.hid (hx.nn.below HW.out)
     have HM := Lib.hid (hy.nn.below HW.out)
     have r0 := ((row2_new w 25 (.bool s) (.slice A n c)).below b1).below bz
     have r1 := (row2_new (w.alloc (.cells #[Value.bool s, Value.slice A n c] 25)) 25 (.bool s') (.slice A' n' c')).below bz
     have rz : ZB (((w.alloc (.cells #[Value.bool s, Value.slice A n c] 25)).alloc (.cells #[Value.bool s', Value.slice A' n' c'] 25)).alloc zbox) ((w.alloc (.cells #[Value.bool s, Value.slice A n c] 25)).alloc (.cells #[Value.bool s', Value.slice A' n' c'] 25)).heap.size := row2_new ((w.alloc (.cells #[Value.bool s, Value.slice A n c] 25)).alloc (.cells #[Value.bool s', Value.slice A' n' c'] 25)) _ _ _
     simp only [World.size_alloc] at r1 rz
     clear b0 b1 bz hx hy
     go_enter Tryz.func76, Tryz.ntmps76
     go_wp2_with fail
     generalize ((w.alloc (.cells #[Value.bool s, Value.slice A n c] 25)).alloc (.cells #[Value.bool s', Value.slice A' n' c'] 25)).alloc zbox = w1 at *
     have HR0 := Lib.hid r0
     have c00 := r0.c0
     have c01 := r0.c1
     have HR1 := Lib.hid r1
     have c10 := r1.c0
     have c11 := r1.c1
     have HZ := Lib.hid rz
     clear r0 r1 rz
     go_wp2_with fail
     refine (sub_yes HN.out HM.out (by omega) (by omega) hab).mono ?_
     rintro e w2 ⟨A2, n2, c2, rfl, h2, bn2⟩
     have BN2 := Lib.hid bn2
     have d200 := (HR0.out.below BN2.out).c0
     have d201 := (HR0.out.below BN2.out).c1
     have d210 := (HR1.out.below BN2.out).c0
     have d211 := (HR1.out.below BN2.out).c1
     clear bn2
     go_wp2_with fail
     refine (signed_c (h2.relax HK.out) _ z (by first | exact HS.out | simpa using HS.out)).mono ?_
     rintro e w4 ⟨rfl, h4, bm⟩
     have BN4 := Lib.hid (below_two BN2.out bm)
     obtain ⟨e0, e1, f0, f1⟩ := (HZ.out.below BN4.out).cells
     have HF := Lib.hid ((HZ.out.below BN4.out).fill (.bool (sg z)) (.slice A2 n2 c2))
     have HP := Lib.hid (h4.put (HZ.out.below BN4.out) (.bool (sg z)) (.slice A2 n2 c2))
     have HB := Lib.hid (below_fill (g := w.heap.size + 1 + 1) (below_two HW.out BN4.out) (by omega) (.bool (sg z)) (.slice A2 n2 c2))
     clear bm
     go_wp2
     refine bodyPost_ret (results_cell_row rfl _ _ (w.heap.size + 1 + 1) 25 #[.bool (sg z), .slice A2 n2 c2] (0, 0) _ rfl HF.out Tryz.underlying25 rfl int_size) rfl ?_
     exact ⟨A2, n2, c2, rfl, HP.out, HB.out⟩
   · have HS : RowKit.Hid (zOf s' (y.natAbs - x.natAbs) = z) := (zOf_sub HY.out HX.out (Ne.symm hs) (by omega)).trans ((Int.add_comm _ _).trans hz)
     have HK : RowKit.Hid (y.natAbs - x.natAbs < 4294967296 ^ K) := Nat.lt_of_le_of_lt (Nat.sub_le _ _) (Nat.lt_of_lt_of_le (lt_pow hy.nn) (Nat.pow_le_pow_right (by decide) (by omega)))
     have hba : x.natAbs ≤ y.natAbs := by omega
     clear hz HX HY
     have hs2 : (s == s') = false := by simpa using hs
     clear hs
     have b0 := below_new w (.cells #[Value.bool s, Value.slice A n c] 25)
     have b1 := below_new (w.alloc (.cells #[Value.bool s, Value.slice A n c] 25)) (.cells #[Value.bool s', Value.slice A' n' c'] 25)
     have bz := below_new ((w.alloc (.cells #[Value.bool s, Value.slice A n c] 25)).alloc (.cells #[Value.bool s', Value.slice A' n' c'] 25)) zbox
     have HW := Lib.hid (below_two (below_two b0 b1) bz)
     have HN := Lib.hid (hx.nn.below HW.out)
     have HM := Lib.hid (hy.nn.below HW.out)
     have r0 := ((row2_new w 25 (.bool s) (.slice A n c)).below b1).below bz
     have r1 := (row2_new (w.alloc (.cells #[Value.bool s, Value.slice A n c] 25)) 25 (.bool s') (.slice A' n' c')).below bz
     have rz : ZB (((w.alloc (.cells #[Value.bool s, Value.slice A n c] 25)).alloc (.cells #[Value.bool s', Value.slice A' n' c'] 25)).alloc zbox) ((w.alloc (.cells #[Value.bool s, Value.slice A n c] 25)).alloc (.cells #[Value.bool s', Value.slice A' n' c'] 25)).heap.size := row2_new ((w.alloc (.cells #[Value.bool s, Value.slice A n c] 25)).alloc (.cells #[Value.bool s', Value.slice A' n' c'] 25)) _ _ _
     simp only [World.size_alloc] at r1 rz
     clear b0 b1 bz hx hy
     go_enter Tryz.func76, Tryz.ntmps76
     go_wp2_with fail
     generalize ((w.alloc (.cells #[Value.bool s, Value.slice A n c] 25)).alloc (.cells #[Value.bool s', Value.slice A' n' c'] 25)).alloc zbox = w1 at *
     have HR0 := Lib.hid r0
     have c00 := r0.c0
     have c01 := r0.c1
     have HR1 := Lib.hid r1
     have c10 := r1.c0
     have c11 := r1.c1
     have HZ := Lib.hid rz
     clear r0 r1 rz
     go_wp2_with fail
     refine (sub_no HN.out HM.out (by omega) (by omega) (by omega)).mono ?_
     rintro e w2 ⟨Au, nu, cu, rfl, h2, bn2⟩
     have BN2 := Lib.hid bn2
     have d200 := (HR0.out.below BN2.out).c0
     have d201 := (HR0.out.below BN2.out).c1
     have d210 := (HR1.out.below BN2.out).c0
     have d211 := (HR1.out.below BN2.out).c1
     clear bn2
     clear h2
     go_wp2_with fail
     refine (sub_yes (HM.out.below BN2.out) (HN.out.below BN2.out) (by omega) (by omega) hba).mono ?_
     rintro e w3 ⟨A2, n2, c2, rfl, h3, bn3⟩
     have BN3 := Lib.hid (below_two BN2.out bn3)
     have d300 := (HR0.out.below BN3.out).c0
     have d301 := (HR0.out.below BN3.out).c1
     have d310 := (HR1.out.below BN3.out).c0
     have d311 := (HR1.out.below BN3.out).c1
     clear bn3
     go_wp2_with fail
     refine (signed_c (h3.relax HK.out) _ z (by first | exact HS.out | simpa using HS.out)).mono ?_
     rintro e w4 ⟨rfl, h4, bm⟩
     have BN4 := Lib.hid (below_two BN3.out bm)
     obtain ⟨e0, e1, f0, f1⟩ := (HZ.out.below BN4.out).cells
     have HF := Lib.hid ((HZ.out.below BN4.out).fill (.bool (sg z)) (.slice A2 n2 c2))
     have HP := Lib.hid (h4.put (HZ.out.below BN4.out) (.bool (sg z)) (.slice A2 n2 c2))
     have HB := Lib.hid (below_fill (g := w.heap.size + 1 + 1) (below_two HW.out BN4.out) (by omega) (.bool (sg z)) (.slice A2 n2 c2))
     clear bm
     go_wp2
     refine bodyPost_ret (results_cell_row rfl _ _ (w.heap.size + 1 + 1) 25 #[.bool (sg z), .slice A2 n2 c2] (0, 0) _ rfl HF.out Tryz.underlying25 rfl int_size) rfl ?_
     exact ⟨A2, n2, c2, rfl, HP.out, HB.out⟩
end
end Go.Proofs.YtjikaojffgjndaaGreatDoor

/- What package whole's Of answers, as a contract over memory: whole numbers in the shortest limbs, 0 not below 0. Conditions: sizes of at most so many limbs; the table of powers of ten where texts are made or read. -/
namespace Go.Proofs.YtjikaojffgjndaaGreatDoor
open Go.RowKit Limb
set_option linter.unusedVariables false
set_option maxHeartbeats 4000000 in
set_option maxRecDepth 100000 in
theorem wOf_c (v : Int) (h0 : -9223372036854775808 ≤ v) (h1 : v ≤ 9223372036854775807) (w : World) :
 Calls Tryz.prog 32 #[.int .i64 v] w fun e w' => ∃ A2 n2 c2, e = .returned (.agg #[.bool (sg v), .slice A2 n2 c2]) ∧ ZZ w' (sg v) A2 n2 c2 (limbs v.natAbs) v 2 ∧ Below w.heap.size w w' := by
 have HW := Lib.hid (below_new w zbox)
 have HZ : RowKit.Hid (ZB (w.alloc zbox) w.heap.size) := row2_new w _ _ _
 by_cases hv0 : v < 0
 · obtain ⟨u, hu⟩ : ∃ u, u = v.natAbs := ⟨_, rfl⟩
   have hlt : u < 18446744073709551616 := by omega
   have ec : IntKind.u64.wrap v = v + 18446744073709551616 := by rw [conv_u64 h0 h1, if_pos hv0]
   have en : IntKind.u64.wrap (-(v + 18446744073709551616)) = (u : Int) := by rw [IntKind.wrap_u64]; omega
   have HS : RowKit.Hid (zOf true u = v) := by
    show _ = _
    rw [hu]; unfold zOf; simp; omega
   have HSd : RowKit.Hid (zOf (decide (v < 0)) u = v) := by
    show _ = _
    rw [hu]; exact zz_zof
   have HC := Lib.hid (of_c u _ rfl hlt (w.alloc zbox))
   clear hu h0 h1
   go_enter Tryz.func32, Tryz.ntmps32
   go_wp2_with fail
   refine HC.out.mono ?_
   rintro e w2 ⟨A2, n2, c2, rfl, h2, bn⟩
   have BN2 := Lib.hid bn
   clear bn
   go_wp2_with fail
   refine (signed_c h2 _ v (by first | exact HS.out | simpa using HS.out | exact HSd.out)).mono ?_
   rintro e w4 ⟨rfl, h4, bm⟩
   have BN4 := Lib.hid (below_two BN2.out bm)
   obtain ⟨e0, e1, f0, f1⟩ := (HZ.out.below BN4.out).cells
   have HF := Lib.hid ((HZ.out.below BN4.out).fill (.bool (sg v)) (.slice A2 n2 c2))
   have HP := Lib.hid (h4.put (HZ.out.below BN4.out) (.bool (sg v)) (.slice A2 n2 c2))
   have HB := Lib.hid (below_fill (g := w.heap.size) (below_two HW.out BN4.out) (by omega) (.bool (sg v)) (.slice A2 n2 c2))
   clear bm
   go_wp2
   refine bodyPost_ret (results_cell_row rfl _ _ (w.heap.size) 25 #[.bool (sg v), .slice A2 n2 c2] (0, 0) _ rfl HF.out Tryz.underlying25 rfl int_size) rfl ?_
   exact ⟨A2, n2, c2, rfl, HP.out, HB.out⟩
 · obtain ⟨u, hu⟩ : ∃ u, u = v.natAbs := ⟨_, rfl⟩
   have hlt : u < 18446744073709551616 := by omega
   have ec : IntKind.u64.wrap v = (u : Int) := by rw [conv_u64 h0 h1, if_neg hv0]; omega
   have hv1 : 0 ≤ v := by omega
   have HS : RowKit.Hid (zOf false u = v) := by
    show _ = _
    rw [hu]; unfold zOf; simp; omega
   have HSd : RowKit.Hid (zOf (decide (v < 0)) u = v) := by
    show _ = _
    rw [hu]; exact zz_zof
   have HC := Lib.hid (of_c u _ rfl hlt (w.alloc zbox))
   clear hu h0 h1 hv0
   go_enter Tryz.func32, Tryz.ntmps32
   go_wp2_with fail
   refine HC.out.mono ?_
   rintro e w2 ⟨A2, n2, c2, rfl, h2, bn⟩
   have BN2 := Lib.hid bn
   clear bn
   go_wp2_with fail
   refine (signed_c h2 _ v (by first | exact HS.out | simpa using HS.out | exact HSd.out)).mono ?_
   rintro e w4 ⟨rfl, h4, bm⟩
   have BN4 := Lib.hid (below_two BN2.out bm)
   obtain ⟨e0, e1, f0, f1⟩ := (HZ.out.below BN4.out).cells
   have HF := Lib.hid ((HZ.out.below BN4.out).fill (.bool (sg v)) (.slice A2 n2 c2))
   have HP := Lib.hid (h4.put (HZ.out.below BN4.out) (.bool (sg v)) (.slice A2 n2 c2))
   have HB := Lib.hid (below_fill (g := w.heap.size) (below_two HW.out BN4.out) (by omega) (.bool (sg v)) (.slice A2 n2 c2))
   clear bm
   go_wp2
   refine bodyPost_ret (results_cell_row rfl _ _ (w.heap.size) 25 #[.bool (sg v), .slice A2 n2 c2] (0, 0) _ rfl HF.out Tryz.underlying25 rfl int_size) rfl ?_
   exact ⟨A2, n2, c2, rfl, HP.out, HB.out⟩
end Go.Proofs.YtjikaojffgjndaaGreatDoor

/- Mathematics of powers of rational numbers (Lean's own), of the limbs that they have, and of the statements of stage 8. No condition. -/
namespace Go.Proofs.YtjikaojffgjndaaGreatDoor
open Go.RowKit Limb
set_option linter.unusedVariables false
theorem ne_of_num {q : Rat} (h : q.num ≠ 0) : q ≠ 0 := num_ne h
theorem num_of_ne {q : Rat} (h : q ≠ 0) : q.num ≠ 0 := fun e => h (Rat.num_eq_zero.1 e)
theorem npow_ne {q : Rat} (h : q ≠ 0) (n : Nat) : q ^ n ≠ 0 := by
 refine ne_of_num ?_
 rw [Rat.num_pow]
 exact Int.pow_ne_zero (num_of_ne h)
theorem inv_told {q : Rat} (h : q.num ≠ 0) : (q⁻¹).num = zOf (sg q.num) q.den ∧ (q⁻¹).den = q.num.natAbs := by
 rw [Rat.num_inv, Rat.den_inv, if_neg h]
 refine ⟨?_, rfl⟩
 rcases Int.lt_trichotomy q.num 0 with h1 | h1 | h1
 · rw [sg_neg h1, Int.sign_eq_neg_one_of_neg h1]; unfold zOf; rw [if_pos rfl]; omega
 · exact absurd h1 h
 · rw [sg_pos (by omega), Int.sign_eq_one_of_pos h1]; unfold zOf; rw [if_neg (by decide)]; omega
theorem Bd.inv {q : Rat} {k l : Nat} (h : Bd q k l) (hq : q.num ≠ 0) : Bd (q⁻¹) l k := by
 obtain ⟨h1, h2⟩ := inv_told hq
 refine ⟨?_, ?_⟩
 · rw [h1, zOf_abs]; exact h.2
 · rw [h2]; exact h.1
theorem ten_ne : (10 : Rat) ≠ 0 := by decide
theorem ten_room (n : Nat) : 10 ^ n < 4294967296 ^ (n / 9 + 1) := by
 have h1 : 10 ^ n ≤ 10 ^ (9 * (n / 9) + 8) := Nat.pow_le_pow_right (by decide) (by omega)
 have h2 : 10 ^ (9 * (n / 9) + 8) = (10 ^ 9) ^ (n / 9) * 10 ^ 8 := by rw [Nat.pow_add, Nat.pow_mul]
 have h3 : (10 ^ 9) ^ (n / 9) ≤ 4294967296 ^ (n / 9) := Nat.pow_le_pow_left (by decide) _
 have h4 : (10 ^ 9) ^ (n / 9) * 10 ^ 8 < 4294967296 ^ (n / 9) * 4294967296 := Nat.lt_of_le_of_lt (Nat.mul_le_mul_right _ h3) (Nat.mul_lt_mul_of_pos_left (by decide) (Nat.pow_pos (by decide)))
 rw [Nat.pow_succ]
 omega
theorem ten_bd (n : Int) : Bd ((10 : Rat) ^ n) (n.natAbs / 9 + 1) (n.natAbs / 9 + 1) := by
 have hN : ∀ k : Nat, Bd ((10 : Rat) ^ k) (k / 9 + 1) (k / 9 + 1) := fun k => by
  refine ⟨?_, ?_⟩
  · rw [Rat.num_pow, Int.natAbs_pow]; exact ten_room k
  · rw [Rat.den_pow, show (10 : Rat).den = 1 from rfl, Nat.one_pow]; exact Nat.one_lt_pow (by omega) (by decide)
 rcases Int.le_total 0 n with h0 | h0
 · obtain ⟨k, rfl⟩ := Int.eq_ofNat_of_zero_le h0
   rw [Rat.zpow_natCast, Int.natAbs_natCast]; exact hN k
 · obtain ⟨k, hk⟩ := Int.eq_ofNat_of_zero_le (show 0 ≤ -n by omega)
   obtain rfl : n = -(k : Int) := by omega
   rw [Rat.zpow_neg, Rat.zpow_natCast, Int.natAbs_neg, Int.natAbs_natCast]
   exact (hN k).inv (num_of_ne (npow_ne ten_ne k))
end Go.Proofs.YtjikaojffgjndaaGreatDoor

/- Mathematics of the statements of stage 8: which powers have room, and what they are. No condition. -/
namespace Go.Proofs.YtjikaojffgjndaaGreatDoor
open Go.RowKit Limb
set_option linter.unusedVariables false
theorem ten_num (n : Nat) : ((10 : Rat) ^ n).num = ((10 ^ n : Nat) : Int) ∧ ((10 : Rat) ^ n).den = 1 := by
 refine ⟨?_, ?_⟩
 · rw [Rat.num_pow, show (10 : Rat).num = ((10 : Nat) : Int) from rfl, Int.natCast_pow]
 · rw [Rat.den_pow, show (10 : Rat).den = 1 from rfl, Nat.one_pow]
theorem scale_down (q : Rat) (n : Nat) : ofR q.num (q.den * 10 ^ n) = limR (q * (10 : Rat) ^ (-(n : Int))) := by
 have h0 : ((10 : Rat) ^ n).num ≠ 0 := num_of_ne (npow_ne ten_ne n)
 have hp : (10 : Nat) ^ n ≠ 0 := Nat.pos_iff_ne_zero.1 (Nat.pow_pos (by decide))
 obtain ⟨h1, h2⟩ := ten_num n
 obtain ⟨h3, h4⟩ := inv_told h0
 unfold ofR
 rw [if_neg (Nat.mul_ne_zero q.den_nz hp), Rat.zpow_neg, Rat.zpow_natCast, mul_mk, h3, h4, h1, h2, Int.natAbs_natCast, sg_pos (show (0 : Int) ≤ ((10 ^ n : Nat) : Int) from Int.natCast_nonneg _)]
 congr 2
 unfold zOf
 rw [if_neg (by decide)]; simp
end Go.Proofs.YtjikaojffgjndaaGreatDoor

/- Mathematics of rounding: the greatest whole number that is not above, the least that is not below, the nearest one, of two the even one. No condition. -/
namespace Go.Proofs.YtjikaojffgjndaaGreatDoor
open Go.RowKit Limb
set_option linter.unusedVariables false
theorem floor_mk {t : Rat} {N : Int} {D : Nat} (hD : 0 < D) (h : t * (D : Rat) = (N : Rat)) : t.floor = N / (D : Int) := by
 have hp : (0 : Rat) < (D : Rat) := Rat.natCast_pos.2 hD
 have key : ∀ x : Int, x ≤ t.floor ↔ x ≤ N / (D : Int) := fun x => by
  rw [Rat.le_floor_iff, Int.le_ediv_iff_mul_le (by omega)]
  have e : ((x * (D : Int) : Int) : Rat) = (x : Rat) * (D : Rat) := by rw [Rat.intCast_mul]; rfl
  rw [← Rat.intCast_le_intCast, e, ← h]
  exact ⟨fun h2 => Rat.mul_le_mul_of_nonneg_right h2 (Rat.le_of_lt hp), fun h2 => Rat.le_of_mul_le_mul_right h2 hp⟩
 exact Int.le_antisymm ((key _).1 (Int.le_refl _)) ((key _).2 (Int.le_refl _))
theorem mul_den (q : Rat) : q * (q.den : Rat) = (q.num : Rat) := by
 rw [mul_mk, Rat.num_natCast, Rat.den_natCast, Nat.mul_one]
 have h := Rat.mkRat_mul_right (n := q.num) (d := 1) q.den_nz
 rw [Nat.one_mul] at h
 rw [h]
 have h2 := Rat.mkRat_self ((q.num : Int) : Rat)
 rwa [Rat.num_intCast, Rat.den_intCast] at h2
theorem scaled_mk (q : Rat) (p : Nat) : q * (10 : Rat) ^ p * (q.den : Rat) = ((q.num * ((10 ^ p : Nat) : Int) : Int) : Rat) := by
 have h1 : q * (q.den : Rat) = (q.num : Rat) := mul_den q
 have h2 : ((10 ^ p : Nat) : Rat) = (10 : Rat) ^ p := by rw [Rat.natCast_pow]; rfl
 rw [Rat.mul_assoc, Rat.mul_comm ((10 : Rat) ^ p), ← Rat.mul_assoc, h1, Rat.intCast_mul, Rat.intCast_natCast, h2]
theorem floor_scaled (q : Rat) (p : Nat) : (q * (10 : Rat) ^ p).floor = q.num * ((10 ^ p : Nat) : Int) / (q.den : Int) := floor_mk (Nat.pos_of_ne_zero q.den_nz) (scaled_mk q p)
theorem floor_up {q : Rat} (h : 0 ≤ q.num) (p : Nat) : (q * (10 : Rat) ^ p).floor = ((q.num.natAbs * 10 ^ p / q.den : Nat) : Int) := by
 rw [floor_scaled]
 obtain ⟨n, hn⟩ := Int.eq_ofNat_of_zero_le h
 rw [hn, Int.natAbs_natCast, ← Int.natCast_mul, ← Int.natCast_ediv]
theorem floor_down {q : Rat} (h : q.num < 0) (p : Nat) : (q * (10 : Rat) ^ p).floor = if q.num.natAbs * 10 ^ p % q.den = 0 then -((q.num.natAbs * 10 ^ p / q.den : Nat) : Int) else -((q.num.natAbs * 10 ^ p / q.den : Nat) : Int) - 1 := by
 rw [floor_scaled]
 obtain ⟨n, hn⟩ : ∃ n : Nat, q.num = -(n : Int) := ⟨q.num.natAbs, by omega⟩
 have hd : 0 < q.den := Nat.pos_of_ne_zero q.den_nz
 rw [hn, Int.natAbs_neg, Int.natAbs_natCast, Int.neg_mul, ← Int.natCast_mul]
 generalize n * 10 ^ p = m
 generalize q.den = d at hd
 have e := Nat.div_add_mod m d
 have hm := Nat.mod_lt m hd
 generalize m / d = a at *
 generalize m % d = b at *
 have e2 : (m : Int) = (d : Int) * (a : Int) + (b : Int) := by rw [← e]; simp
 split
 · rename_i hb
   subst hb
   rw [e2, show -((d : Int) * (a : Int) + ((0 : Nat) : Int)) = (d : Int) * (-(a : Int)) by rw [Int.natCast_zero, Int.add_zero, Int.mul_neg], Int.mul_ediv_cancel_left _ (by omega)]
 · rename_i hb
   have e3 : -(m : Int) = ((d : Int) - (b : Int)) + (d : Int) * (-(a : Int) - 1) := by
    rw [e2, Int.mul_sub, Int.mul_neg]; omega
   rw [e3, Int.add_mul_ediv_left _ _ (by omega), Int.ediv_eq_zero_of_lt (by omega) (by omega), Int.zero_add]
def nearQ (t : Rat) : Int := if 0 < cmpQ ((t - (t.floor : Rat)) + (t - (t.floor : Rat))) 1 ∨ (cmpQ ((t - (t.floor : Rat)) + (t - (t.floor : Rat))) 1 = 0 ∧ t.floor.natAbs % 2 = 1) then t.floor + 1 else t.floor
theorem ceil_cases (t : Rat) : (t.ceil = t.floor ∧ t = (t.floor : Rat)) ∨ (t.ceil = t.floor + 1 ∧ (t.floor : Rat) < t ∧ t < ((t.floor + 1 : Int) : Rat)) := by
 rcases Rat.le_iff_lt_or_eq.1 (Rat.floor_le t) with h | h
 · refine .inr ⟨?_, h, Rat.lt_floor_add_one t⟩
   have h1 : t.ceil ≤ t.floor + 1 := Rat.ceil_le_iff.2 (Rat.le_of_lt (Rat.lt_floor_add_one t))
   have h2 : t.floor < t.ceil := Rat.lt_ceil_iff.2 h
   omega
 · refine .inl ⟨?_, h.symm⟩
   have h1 : t.ceil ≤ t.floor := Rat.ceil_le_iff.2 (by rw [h]; exact Rat.le_refl)
   have h2 : (t.floor : Rat) ≤ (t.ceil : Rat) := Rat.le_trans (Rat.floor_le t) Rat.le_ceil
   have h3 := Rat.intCast_le_intCast.1 h2
   omega
theorem near_cases (t : Rat) : nearQ t = t.floor ∨ (nearQ t = t.floor + 1 ∧ t.ceil = t.floor + 1) := by
 unfold nearQ
 split
 · rename_i h
   rcases ceil_cases t with ⟨_, h2⟩ | ⟨h2, _⟩
   · exfalso
     have e : t - (t.floor : Rat) = 0 := by rw [← h2]; exact Rat.sub_self
     rw [e, show cmpQ ((0 : Rat) + 0) 1 = -1 by decide +kernel] at h
     omega
   · exact .inr ⟨rfl, h2⟩
 · exact .inl rfl
theorem ceil_monotone {a b : Rat} (h : a ≤ b) : a.ceil ≤ b.ceil := Rat.ceil_le_iff.2 (Rat.le_trans h Rat.le_ceil)
theorem floor_neg (t : Rat) : (-t).floor = -t.ceil := by rw [Rat.ceil_eq_neg_floor_neg]; omega
theorem near_spec (t : Rat) : (nearQ t = t.floor ∧ (t - (t.floor : Rat)) + (t - (t.floor : Rat)) ≤ 1 ∧ ((t - (t.floor : Rat)) + (t - (t.floor : Rat)) = 1 → t.floor.natAbs % 2 = 0)) ∨
 (nearQ t = t.floor + 1 ∧ 1 ≤ (t - (t.floor : Rat)) + (t - (t.floor : Rat)) ∧ ((t - (t.floor : Rat)) + (t - (t.floor : Rat)) = 1 → t.floor.natAbs % 2 = 1)) := by
 unfold nearQ
 generalize hx : (t - (t.floor : Rat)) + (t - (t.floor : Rat)) = x
 rcases rat_tri x 1 with h | h | h
 · rw [cmpQ_lt h, if_neg (by omega)]
   exact .inl ⟨rfl, Rat.le_of_lt h, fun e => by rw [e] at h; exact absurd h (by decide)⟩
 · rw [cmpQ_eq h]
   by_cases ho : t.floor.natAbs % 2 = 1
   · rw [if_pos (.inr ⟨rfl, ho⟩)]
     exact .inr ⟨rfl, by rw [h]; exact Rat.le_refl, fun _ => ho⟩
   · rw [if_neg (by omega)]
     exact .inl ⟨rfl, by rw [h]; exact Rat.le_refl, fun _ => by omega⟩
 · rw [cmpQ_gt h, if_pos (.inl (by decide))]
   exact .inr ⟨rfl, Rat.le_of_lt h, fun e => by rw [e] at h; exact absurd h (by decide)⟩
theorem near_neg (t : Rat) : nearQ (-t) = -nearQ t := by
 have h1 := near_spec t
 have h2 := near_spec (-t)
 rw [floor_neg] at h2
 rcases ceil_cases t with ⟨hc, ht⟩ | ⟨hc, ht, ht2⟩
 · rw [hc] at h2
   rw [Rat.intCast_neg] at h2
   have e1 : t - (t.floor : Rat) = 0 := by rw [← ht]; exact Rat.sub_self
   have e2 : -t - -(t.floor : Rat) = 0 := by rw [← ht]; exact Rat.sub_self
   rw [e1] at h1
   rw [e2] at h2
   rcases h1 with ⟨a1, _⟩ | ⟨_, a2, _⟩
   · rcases h2 with ⟨b1, _⟩ | ⟨_, b2, _⟩
     · omega
     · exact absurd b2 (by decide +kernel)
   · exact absurd a2 (by decide +kernel)
 · rw [hc, Rat.intCast_neg, Rat.intCast_add] at h2
   have ei : ((1 : Int) : Rat) = 1 := rfl
   rw [ei] at h2
   generalize hf : t.floor = f at *
   generalize (f : Rat) = x at *
   rcases h1 with ⟨a1, a2, a3⟩ | ⟨a1, a2, a3⟩
   · rcases h2 with ⟨b1, b2, b3⟩ | ⟨b1, b2, b3⟩
     · have e : t - x + (t - x) = 1 := by grind
       have e' : -t - -(x + 1) + (-t - -(x + 1)) = 1 := by grind
       have := a3 e
       have := b3 e'
       omega
     · omega
   · rcases h2 with ⟨b1, b2, b3⟩ | ⟨b1, b2, b3⟩
     · omega
     · have e : t - x + (t - x) = 1 := by grind
       have e' : -t - -(x + 1) + (-t - -(x + 1)) = 1 := by grind
       have := a3 e
       have := b3 e'
       omega
theorem near_monotone {a b : Rat} (h : a ≤ b) : nearQ a ≤ nearQ b := by
 have hf := Rat.floor_monotone h
 have h1 := near_spec a
 have h2 := near_spec b
 rcases Int.lt_or_eq_of_le hf with h3 | h3
 · rcases h1 with ⟨a1, _⟩ | ⟨a1, _⟩ <;> rcases h2 with ⟨b1, _⟩ | ⟨b1, _⟩ <;> omega
 · rw [← h3] at h2
   generalize hg : a.floor = f at *
   generalize (f : Rat) = x at *
   rcases h1 with ⟨a1, a2, a3⟩ | ⟨a1, a2, a3⟩
   · rcases h2 with ⟨b1, _⟩ | ⟨b1, _⟩ <;> omega
   · rcases h2 with ⟨b1, b2, b3⟩ | ⟨b1, _⟩
     · exfalso
       have e : a - x + (a - x) = 1 := by grind
       have e' : b - x + (b - x) = 1 := by grind
       have := a3 e
       have := b3 e'
       omega
     · omega
theorem near_close (t : Rat) : (t - (nearQ t : Rat)) + (t - (nearQ t : Rat)) ≤ 1 ∧ -((t - (nearQ t : Rat)) + (t - (nearQ t : Rat))) ≤ 1 := by
 have hl := Rat.floor_le t
 have hu := Rat.lt_floor_add_one t
 have h1 := near_spec t
 have ei : ((1 : Int) : Rat) = 1 := rfl
 rw [Rat.intCast_add, ei] at hu
 rcases h1 with ⟨a1, a2, a3⟩ | ⟨a1, a2, a3⟩
 · rw [a1]
   generalize (t.floor : Rat) = x at *
   constructor <;> grind
 · rw [a1, Rat.intCast_add, ei]
   generalize (t.floor : Rat) = x at *
   constructor <;> grind
end Go.Proofs.YtjikaojffgjndaaGreatDoor

/- Mathematics of literals: the longest one with which a text begins, its parts, its number. No condition. -/
namespace Go.Proofs.YtjikaojffgjndaaGreatDoor.Limb
set_option linter.unusedVariables false
def litRun (l : List Nat) : Nat := (l.takeWhile isDig).length
def litPoint (l : List Nat) : Nat := if lim l 0 = 46 ∧ litRun (l.drop 1) ≠ 0 then 1 + litRun (l.drop 1) else 0
def litF : Option (List Nat) → List Nat
 | none => []
 | some p => 46 :: p
def litSg (s : Bool) : List Nat := if s = true then [45] else []
def Dig1 (l : List Nat) : Prop := allDig l = true ∧ l ≠ []
def Ender (r : List Nat) : Prop := r = [] ∨ ∃ c t, r = c :: t ∧ isDig c = false ∧ c ≠ 46 ∧ c ≠ 101
def Ends (r : List Nat) : Prop := r = [] ∨ ∃ c t, r = c :: t ∧ isDig c = false
theorem lim_nil (k : Nat) : lim [] k = 0 := by simp [lim]
theorem lim_drop0 (l : List Nat) (k : Nat) : lim (l.drop k) 0 = lim l k := by
 simp [lim, List.getD_eq_getElem?_getD]
theorem Ender.ends {r : List Nat} (h : Ender r) : Ends r := h.imp id fun ⟨c, t, e, hc, _⟩ => ⟨c, t, e, hc⟩
theorem Dig1.pos {l : List Nat} (h : Dig1 l) : l.length ≠ 0 := fun e => h.2 (List.eq_nil_of_length_eq_zero e)
theorem Ender.lim {r : List Nat} (h : Ender r) : lim r 0 ≠ 46 ∧ lim r 0 ≠ 101 := by
 rcases h with rfl | ⟨c, t, rfl, _, h1, h2⟩
 · rw [lim_nil]; exact ⟨by decide, by decide⟩
 · exact ⟨h1, h2⟩
theorem litRun_le (l : List Nat) : litRun l ≤ l.length := (List.takeWhile_sublist _).length_le
theorem take_run (l : List Nat) : l.take (litRun l) = l.takeWhile isDig := (List.prefix_iff_eq_take.1 (List.takeWhile_prefix isDig)).symm
theorem allDig_run (l : List Nat) : allDig (l.takeWhile isDig) = true := by
 rw [allDig, List.all_eq_true]
 intro x hx
 have h := List.all_takeWhile (p := isDig) (l := l)
 exact List.all_eq_true.1 h x hx
theorem dig1_take {l : List Nat} {k : Nat} (h0 : litRun l ≠ 0) (hk : 0 < k) (hl : k ≤ litRun l) : Dig1 (l.take k) := by
 have e : l.take k = (l.takeWhile isDig).take k := by rw [← take_run, List.take_take, Nat.min_eq_left hl]
 rw [e]
 refine ⟨?_, ?_⟩
 · exact allDig_iff.2 fun x hx => allDig_iff.1 (allDig_run l) x (List.mem_of_mem_take hx)
 · intro h
   have h2 : min k (l.takeWhile isDig).length = 0 := by rw [← List.length_take, h]; rfl
   have h3 : litRun l = (l.takeWhile isDig).length := rfl
   omega
theorem lim_ne_cons {l : List Nat} {v : Nat} (h : lim l 0 = v) (hv : v ≠ 0) : l = v :: l.drop 1 := by
 cases l with
 | nil => rw [lim_nil] at h; exact absurd h.symm hv
 | cons x l => rw [show x = v from h]; rfl
theorem point_parts (r : List Nat) : ∃ f, (∀ p, f = some p → Dig1 p) ∧ r.take (litPoint r) = litF f ∧ litPoint r ≤ r.length := by
 unfold litPoint
 by_cases h : lim r 0 = 46 ∧ litRun (r.drop 1) ≠ 0
 · rw [if_pos h]
   refine ⟨some ((r.drop 1).take (litRun (r.drop 1))), fun p hp => ?_, ?_, ?_⟩
   · injection hp with hp
     subst hp
     exact dig1_take h.2 (Nat.pos_of_ne_zero h.2) (Nat.le_refl _)
   · conv => lhs; rw [lim_ne_cons h.1 (by decide)]
     rw [Nat.add_comm 1]; rfl
   · have h1 := litRun_le (r.drop 1)
     rw [List.length_drop] at h1
     omega
 · rw [if_neg h]
   exact ⟨none, (fun p hp => by cases hp), rfl, Nat.zero_le _⟩
theorem Ender.nil : Ender [] := .inl rfl
theorem Ender.of {c : Nat} (t : List Nat) (h : isDig c = false ∧ c ≠ 46 ∧ c ≠ 101) : Ender (c :: t) := .inr ⟨c, t, rfl, h⟩
structure LitSt where
 ds : List Nat
 places : Nat
 exp : Nat
 neg : Bool
 point : Bool
 e : Bool
def litStep (t : LitSt) (c : Nat) : LitSt :=
 if c = 46 then { t with point := true } else if c = 101 then { t with e := true } else if c = 45 then { t with neg := true }
 else if t.e = true then { t with exp := t.exp * 10 + (c - 48) } else { t with ds := t.ds ++ [c], places := t.places + (if t.point = true then 1 else 0) }
def litRead (l : List Nat) : LitSt := l.foldl litStep ⟨[], 0, 0, false, false, false⟩
theorem step_dig {t : LitSt} {c : Nat} (h : isDig c = true) : litStep t c = if t.e = true then { t with exp := t.exp * 10 + (c - 48) } else { t with ds := t.ds ++ [c], places := t.places + (if t.point = true then 1 else 0) } := by
 simp only [isDig, Bool.and_eq_true, decide_eq_true_eq] at h
 unfold litStep
 rw [if_neg (by omega), if_neg (by omega), if_neg (by omega)]
theorem fold_ds : ∀ (a : List Nat) (t : LitSt), allDig a = true → t.e = false → a.foldl litStep t = { t with ds := t.ds ++ a, places := t.places + (if t.point = true then a.length else 0) }
 | [], t, _, _ => by cases t; simp
 | x :: a, t, ha, he => by
  have h1 := List.all_eq_true.1 ha x (by simp)
  have h2 : allDig a = true := allDig_iff.2 fun y hy => allDig_iff.1 ha y (by simp [hy])
  rw [List.foldl_cons, step_dig h1, if_neg (by rw [he]; decide), fold_ds a { t with ds := t.ds ++ [x], places := t.places + (if t.point = true then 1 else 0) } h2 he]
  cases t
  rename_i ds places exp neg point e
  cases point <;> simp
  omega
end Go.Proofs.YtjikaojffgjndaaGreatDoor.Limb

/- Mathematics of the statements of stage 9: what literals tell, in rational numbers. No condition. -/
namespace Go.Proofs.YtjikaojffgjndaaGreatDoor
open Go.RowKit Limb
set_option linter.unusedVariables false
theorem ten_add (a b : Int) : (10 : Rat) ^ a * (10 : Rat) ^ b = (10 : Rat) ^ (a + b) := (Rat.zpow_add ten_ne a b).symm
end Go.Proofs.YtjikaojffgjndaaGreatDoor

/- Mathematics of reading a literal byte by byte: what has been read stays small, what it is made of. No condition. -/
namespace Go.Proofs.YtjikaojffgjndaaGreatDoor
open Go.RowKit Limb
set_option linter.unusedVariables false
theorem read_step {l : List Nat} {i : Nat} (hi : i < l.length) : litRead (l.take (i + 1)) = litStep (litRead (l.take i)) (lim l i) := by
 have e : l.take (i + 1) = l.take i ++ [lim l i] := by
  rw [List.take_succ_eq_append_getElem hi]
  simp [lim, List.getD_eq_getElem?_getD, List.getElem?_eq_getElem hi]
 unfold litRead
 rw [e, List.foldl_append]
 rfl
theorem bytes_cut (s : ByteArray) (i j : Nat) : bytesOf (s.extract i j) = ((bytesOf s).drop i).take (j - i) := by
 unfold bytesOf
 rw [ByteArray.data_extract, Array.toList_extract, List.extract_eq_take_drop, List.map_take, List.map_drop]
theorem byte_cut (s : ByteArray) (i : Nat) (h : i < s.size) {d : Nat} (hd : lim (bytesOf s) i = d) : bytesOf (s.extract i (i + 1)) = [d] := by
 rw [bytes_cut, show i + 1 - i = 1 by omega]
 have hl : 0 < ((bytesOf s).drop i).length := by rw [List.length_drop, length_bytesOf]; omega
 have e : lim ((bytesOf s).drop i) 0 = d := by rw [lim_drop0]; exact hd
 cases hc : (bytesOf s).drop i with
 | nil => rw [hc] at hl; simp at hl
 | cons x t => rw [hc] at e; rw [show x = d from e]; rfl
end Go.Proofs.YtjikaojffgjndaaGreatDoor

/- Mathematics of decimal texts: a whole number with so many places behind a point, what such a text reads as. No condition. -/
namespace Go.Proofs.YtjikaojffgjndaaGreatDoor
open Go.RowKit Limb
set_option linter.unusedVariables false
def padL (p : Nat) (l : List Nat) : List Nat := List.replicate (p + 1 - l.length) 48 ++ l
theorem padL_dig {p : Nat} {l : List Nat} (h : allDig l = true) : allDig (padL p l) = true := by unfold padL; rw [allDig_append, allDig_zeros, h]; rfl
theorem padL_val (p : Nat) (l : List Nat) : decV (padL p l) = decV l := decV_zeros _ _
theorem padL_len (p : Nat) (l : List Nat) : (padL p l).length = max (p + 1) l.length := by unfold padL; rw [List.length_append, List.length_replicate]; omega
def headL (v : Int) (p : Nat) : List Nat := (padL p (decT v.natAbs)).take ((padL p (decT v.natAbs)).length - p)
def tailL (v : Int) (p : Nat) : List Nat := (padL p (decT v.natAbs)).drop ((padL p (decT v.natAbs)).length - p)
def pointT (v : Int) (p : Nat) : List Nat := litSg (sg v) ++ (if p = 0 then padL p (decT v.natAbs) else headL v p ++ 46 :: tailL v p)
theorem head_tail (v : Int) (p : Nat) : headL v p ++ tailL v p = padL p (decT v.natAbs) := List.take_append_drop _ _
theorem tail_len (v : Int) (p : Nat) : (tailL v p).length = p := by
 unfold tailL
 rw [List.length_drop, padL_len]
 omega
theorem head_dig (v : Int) (p : Nat) : allDig (headL v p) = true := allDig_iff.2 fun x hx => allDig_iff.1 (padL_dig (decT_dig _)) x (List.mem_of_mem_take hx)
theorem tail_dig (v : Int) (p : Nat) : allDig (tailL v p) = true := allDig_iff.2 fun x hx => allDig_iff.1 (padL_dig (decT_dig _)) x (List.mem_of_mem_drop hx)
theorem point_read (v : Int) (p : Nat) : litRead (pointT v p) = ⟨padL p (decT v.natAbs), p, 0, sg v, decide (0 < p), false⟩ := by
 have hs : (litSg (sg v)).foldl litStep ⟨[], 0, 0, false, false, false⟩ = ⟨[], 0, 0, sg v, false, false⟩ := by
  cases sg v <;> rfl
 unfold litRead pointT
 rw [List.foldl_append, hs]
 by_cases hp : p = 0
 · subst hp
   rw [if_pos rfl, fold_ds _ _ (padL_dig (decT_dig _)) rfl]
   simp
 · rw [if_neg hp, List.foldl_append, fold_ds _ _ (head_dig v p) rfl, List.foldl_cons]
   have e : litStep { ds := [] ++ headL v p, places := 0 + (if false = true then (headL v p).length else 0), exp := 0, neg := sg v, point := false, e := false } 46 = ⟨headL v p, 0, 0, sg v, true, false⟩ := by
    unfold litStep
    rw [if_pos rfl]
    simp
   have e2 := fold_ds (tailL v p) ⟨headL v p, 0, 0, sg v, true, false⟩ (tail_dig v p) rfl
   show (tailL v p).foldl litStep (litStep { ds := [] ++ headL v p, places := 0 + (if false = true then (headL v p).length else 0), exp := 0, neg := sg v, point := false, e := false } 46) = _
   rw [e, e2, tail_len]
   have e3 := head_tail v p
   simp [e3]
   omega
theorem point_inj {v u : Int} {p : Nat} (h : pointT v p = pointT u p) : v = u := by
 have h1 := point_read v p
 rw [h, point_read] at h1
 injection h1 with e1 _ _ e2
 have e3 := congrArg decV e1
 rw [padL_val, padL_val, decV_decT, decV_decT] at e3
 rw [← zz_sg v, ← zz_sg u, e3, e2]
theorem point_bytes (v : Int) (p : Nat) : Bytes (pointT v p) := by
 unfold pointT
 refine bytes_append.2 ⟨?_, ?_⟩
 · cases sg v
   · exact bytes_nil
   · exact bytes_cons.2 ⟨by decide, bytes_nil⟩
 · split
   · exact allDig_bytes (padL_dig (decT_dig _))
   · exact bytes_append.2 ⟨allDig_bytes (head_dig v p), bytes_cons.2 ⟨by decide, allDig_bytes (tail_dig v p)⟩⟩
theorem point_len (v : Int) (p : Nat) : (pointT v p).length ≤ max (p + 1) (decT v.natAbs).length + 2 := by
 have h1 : (litSg (sg v)).length ≤ 1 := by cases sg v <;> decide
 unfold pointT
 rw [List.length_append]
 split
 · rw [padL_len]; omega
 · have h2 := congrArg List.length (head_tail v p)
   rw [List.length_append, padL_len] at h2
   rw [List.length_append, List.length_cons]
   omega
theorem padL_snoc (p m : Nat) {d : Nat} (hd : d < 10) : padL (p + 1) (decT (m * 10 + d)) = padL p (decT m) ++ [48 + d] := by
 rcases Nat.eq_zero_or_pos m with h | h
 · subst h
   rw [Nat.zero_mul, Nat.zero_add, decT_small hd, decT_zero]
   unfold padL
   rw [show p + 1 + 1 - [48 + d].length = p + 1 from rfl, show p + 1 - [48].length = p from rfl, List.replicate_succ']
 · rw [decT_snoc (by omega) hd]
   unfold padL
   rw [List.length_append, List.length_singleton, show p + 1 + 1 - ((decT m).length + 1) = p + 1 - (decT m).length by omega, List.append_assoc]
theorem padL_tens (n p : Nat) : padL p (decT (n * 10 ^ p)) = decT n ++ List.replicate p 48 := by
 induction p with
 | zero =>
  rw [Nat.pow_zero, Nat.mul_one]
  unfold padL
  have := decT_pos n
  rw [show 0 + 1 - (decT n).length = 0 by omega]
  simp
 | succ p ih =>
  rw [Nat.pow_succ, ← Nat.mul_assoc]
  have h : padL (p + 1) (decT (n * 10 ^ p * 10)) = padL p (decT (n * 10 ^ p)) ++ [48 + 0] := padL_snoc p (n * 10 ^ p) (d := 0) (by decide)
  rw [h, ih, List.append_assoc, List.replicate_succ']
theorem point_whole (v : Int) (p : Nat) : pointT (v * ((10 ^ p : Nat) : Int)) p = litSg (sg v) ++ decT v.natAbs ++ (if p = 0 then [] else 46 :: List.replicate p 48) := by
 have hs : sg (v * ((10 ^ p : Nat) : Int)) = sg v := by
  have hp : (0 : Int) < ((10 ^ p : Nat) : Int) := by exact_mod_cast Nat.pow_pos (by decide)
  unfold sg
  rw [decide_eq_decide]
  constructor
  · intro h
    rcases Int.lt_or_le v 0 with h2 | h2
    · exact h2
    · have := Int.mul_nonneg h2 (Int.le_of_lt hp); omega
  · intro h; exact Int.mul_neg_of_neg_of_pos h hp
 have ha : (v * ((10 ^ p : Nat) : Int)).natAbs = v.natAbs * 10 ^ p := by rw [Int.natAbs_mul, Int.natAbs_natCast]
 have hd : padL p (decT (v * ((10 ^ p : Nat) : Int)).natAbs) = decT v.natAbs ++ List.replicate p 48 := by rw [ha, padL_tens]
 unfold pointT headL tailL
 rw [hs, hd]
 split
 · rename_i h0; subst h0; simp
 · rw [List.length_append, List.length_replicate, Nat.add_sub_cancel, List.take_left, List.drop_left, List.append_assoc]
theorem point_more {m : Nat} {d p : Nat} (hd : d < 10) (hp : p ≠ 0) : pointT ((m * 10 + d : Nat) : Int) (p + 1) = pointT (m : Int) p ++ [48 + d] := by
 have h := padL_snoc p m hd
 have hl := padL_len p (decT m)
 unfold pointT headL tailL
 rw [sg_pos (show (0 : Int) ≤ ((m * 10 + d : Nat) : Int) by omega), sg_pos (show (0 : Int) ≤ (m : Int) by omega), if_neg (by omega), if_neg hp, Int.natAbs_natCast, Int.natAbs_natCast, h, List.length_append, List.length_singleton, Nat.add_sub_add_right]
 rw [List.take_append_of_le_length (by omega), List.drop_append_of_le_length (by omega)]
 simp [litSg]
end Go.Proofs.YtjikaojffgjndaaGreatDoor

/- Mathematics of the statements of stage 10: what rounded numbers are. No condition. -/
namespace Go.Proofs.YtjikaojffgjndaaGreatDoor
open Go.RowKit Limb
set_option linter.unusedVariables false
def movedQ (q : Rat) (p : Nat) : Rat := q * (10 : Rat) ^ p
def placedQ (v : Int) (p : Nat) : Rat := (v : Rat) * (10 : Rat) ^ (-(p : Int))
def numR (v : Int) (p : Nat) : Option Rat × Int := ofR v (10 ^ p)
theorem numR_is (v : Int) (p : Nat) : numR v p = limR (placedQ v p) := by
 have h := scale_down (v : Rat) p
 rw [Rat.num_intCast, Rat.den_intCast, Nat.one_mul] at h
 exact h
theorem ten_gt (k : Int) : (0 : Rat) < (10 : Rat) ^ k := by
 rcases Int.le_total 0 k with h0 | h0
 · obtain ⟨n, rfl⟩ := Int.eq_ofNat_of_zero_le h0
   rw [Rat.zpow_natCast]; exact Rat.pow_pos (by decide)
 · obtain ⟨n, hn⟩ := Int.eq_ofNat_of_zero_le (show 0 ≤ -k by omega)
   obtain rfl : k = -(n : Int) := by omega
   rw [Rat.zpow_neg, Rat.zpow_natCast]; exact Rat.inv_pos.2 (Rat.pow_pos (by decide))
theorem unmoved (q : Rat) (p : Nat) : movedQ q p * (10 : Rat) ^ (-(p : Int)) = q := by
 unfold movedQ
 rw [← Rat.zpow_natCast, Rat.mul_assoc, ten_add, Int.add_right_neg, Rat.zpow_zero, Rat.mul_one]
theorem int_bd {v : Int} {L : Nat} (h : v.natAbs < 4294967296 ^ L) : Bd (v : Rat) L 1 := ⟨by rw [Rat.num_intCast]; exact h, by rw [Rat.den_intCast]; decide⟩
theorem floor_abs (t : Rat) : t.floor.natAbs ≤ t.num.natAbs + 1 := by
 rw [Rat.floor_def]
 have hd : 0 < t.den := Nat.pos_of_ne_zero t.den_nz
 generalize t.num = n
 generalize t.den = d at hd
 have h1 : n / (d : Int) * (d : Int) ≤ n := Int.ediv_mul_le n (by omega)
 have h2 : n < (n / (d : Int) + 1) * (d : Int) := Int.lt_ediv_add_one_mul_self n (by omega)
 generalize n / (d : Int) = q at *
 rcases Int.lt_or_le q 0 with h | h
 · have h3 : (q + 1) * (d : Int) ≤ (q + 1) * 1 := Int.mul_le_mul_of_nonpos_left (by omega) (by omega)
   omega
 · have h3 : q * 1 ≤ q * (d : Int) := Int.mul_le_mul_of_nonneg_left (by omega) h
   omega
theorem moved_bd {a : Rat} {k : Nat} (ha : Bd a k k) {p : Nat} (hp : p ≤ 26) : Bd (movedQ a p) (k + 3) (k + 3) := by
 unfold movedQ
 rw [← Rat.zpow_natCast]
 exact (ha.mul (ten_bd (p : Int))).mono (by omega) (by omega)
theorem near_between (t : Rat) : t.floor ≤ nearQ t ∧ nearQ t ≤ t.floor + 1 := by rcases near_cases t with h | ⟨h, _⟩ <;> omega
theorem ceil_between (t : Rat) : t.floor ≤ t.ceil ∧ t.ceil ≤ t.floor + 1 := by rcases ceil_cases t with ⟨h, _⟩ | ⟨h, _⟩ <;> omega
theorem small_add {n k : Nat} (h : n < 4294967296 ^ k) : n + 2 < 4294967296 ^ (k + 1) := by
 have h1 : 1 ≤ 4294967296 ^ k := Nat.pow_pos (by decide)
 rw [Nat.pow_succ]; omega
theorem placed_bd {t : Rat} {k : Nat} (ht : Bd t k k) {v : Int} (h1 : t.floor ≤ v) (h2 : v ≤ t.floor + 1) {p : Nat} (hp : p ≤ 26) : Bd (placedQ v p) (k + 4) (k + 4) := by
 have hv : v.natAbs < 4294967296 ^ (k + 1) := by
  have h3 := floor_abs t
  have h4 := small_add ht.1
  omega
 exact ((int_bd hv).mul (ten_bd (-(p : Int)))).mono (by omega) (by omega)
theorem placed_sub (v u : Int) (p : Nat) : placedQ v p - placedQ u p = placedQ (v - u) p := by
 unfold placedQ
 rw [Rat.intCast_sub]; grind
theorem placed_le {v u : Int} {p : Nat} (h : v ≤ u) : placedQ v p ≤ placedQ u p := Rat.mul_le_mul_of_nonneg_right (Rat.intCast_le_intCast.2 h) (Rat.le_of_lt (ten_gt _))
theorem placed_neg (v : Int) (p : Nat) : placedQ (-v) p = -placedQ v p := by
 unfold placedQ
 rw [Rat.intCast_neg, Rat.neg_mul]
theorem cmpQ_le {p q : Rat} (h : p ≤ q) : cmpQ p q ≤ 0 := by
 rcases rat_tri p q with h2 | h2 | h2
 · rw [cmpQ_lt h2]; decide
 · rw [cmpQ_eq h2]; exact Int.le_refl _
 · exact absurd h (Rat.not_le.2 h2)
theorem cmpQ_ge {p q : Rat} (h : q ≤ p) : 0 ≤ cmpQ p q := by
 rcases rat_tri p q with h2 | h2 | h2
 · exact absurd h (Rat.not_le.2 h2)
 · rw [cmpQ_eq h2]; exact Int.le_refl _
 · rw [cmpQ_gt h2]; decide
theorem bounds_facts {a : Rat} (ha : Bd a 20 20) {p : Nat} (hp : p < 20) :
 ∃ lo hi mid g st w v : Rat, numR (movedQ a p).floor p = (some lo, 0) ∧ numR (movedQ a p).ceil p = (some hi, 0) ∧ numR (nearQ (movedQ a p)) p = (some mid, 0) ∧ subR (some hi) (some lo) = (some g, 0) ∧ numR 1 p = (some st, 0) ∧
  cmpR (some lo) (some a) ≤ 0 ∧ 0 ≤ cmpR (some hi) (some a) ∧ (((movedQ a p).ceil = (movedQ a p).floor ∧ cmpR (some g) (some 0) = 0 ∧ cmpR (some lo) (some a) = 0) ∨ ((movedQ a p).ceil = (movedQ a p).floor + 1 ∧ cmpR (some g) (some 0) ≠ 0 ∧ g = st ∧ cmpR (some lo) (some a) ≠ 0)) ∧
  (nearQ (movedQ a p) = (movedQ a p).floor ∨ nearQ (movedQ a p) = (movedQ a p).ceil) ∧ subR (some a) (some mid) = (some w, 0) ∧ addR (some w) (some w) = (some v, 0) ∧ cmpR (some v) (some st) ≤ 0 ∧ cmpR (some (-v)) (some st) ≤ 0 := by
 obtain ⟨t, ht⟩ : ∃ t, movedQ a p = t := ⟨_, rfl⟩
 have hb : Bd t 23 23 := by rw [← ht]; exact moved_bd ha (by omega)
 have hat : t * (10 : Rat) ^ (-(p : Int)) = a := by rw [← ht]; exact unmoved a p
 rw [ht]
 obtain ⟨s, hs⟩ : ∃ s, (10 : Rat) ^ (-(p : Int)) = s := ⟨_, rfl⟩
 have hs0 : 0 < s := by rw [← hs]; exact ten_gt _
 rw [hs] at hat
 have pq : ∀ v : Int, placedQ v p = (v : Rat) * s := fun v => by unfold placedQ; rw [hs]
 have hcb := ceil_between t
 have hnb := near_between t
 have b1 := placed_bd hb (Int.le_refl t.floor) (by omega) (p := p) (by omega)
 have b2 := placed_bd hb hcb.1 hcb.2 (p := p) (by omega)
 have b3 := placed_bd hb hnb.1 hnb.2 (p := p) (by omega)
 have hst : placedQ 1 p = s := by rw [pq]; exact Rat.one_mul _
 have b4 : Bd s 4 4 := by rw [← hs]; exact (ten_bd _).mono (by omega) (by omega)
 have lo_le : placedQ t.floor p ≤ a := by rw [pq, ← hat]; exact Rat.mul_le_mul_of_nonneg_right (Rat.floor_le t) (Rat.le_of_lt hs0)
 have hi_ge : a ≤ placedQ t.ceil p := by rw [pq, ← hat]; exact Rat.mul_le_mul_of_nonneg_right Rat.le_ceil (Rat.le_of_lt hs0)
 have hgap : placedQ t.ceil p - placedQ t.floor p = placedQ (t.ceil - t.floor) p := placed_sub _ _ _
 have bg : Bd (placedQ (t.ceil - t.floor) p) 5 5 := by
  have h5 : (t.ceil - t.floor).natAbs < 4294967296 ^ 1 := by omega
  exact ((int_bd h5).mul (ten_bd (-(p : Int)))).mono (by omega) (by omega)
 have hw : a - placedQ (nearQ t) p = (t - (nearQ t : Rat)) * s := by rw [pq, ← hat]; grind
 have hv : a - placedQ (nearQ t) p + (a - placedQ (nearQ t) p) = ((t - (nearQ t : Rat)) + (t - (nearQ t : Rat))) * s := by rw [hw]; grind
 have bw : Bd (a - placedQ (nearQ t) p) 48 47 := by
  have h6 := ha.add b3.neg (e := 47) (by omega) (by omega)
  rw [← Rat.sub_eq_add_neg] at h6
  exact h6.mono (by omega) (by omega)
 obtain ⟨k1, k2⟩ := near_close t
 have hvle : a - placedQ (nearQ t) p + (a - placedQ (nearQ t) p) ≤ s := by
  rw [hv]
  have := Rat.mul_le_mul_of_nonneg_right k1 (Rat.le_of_lt hs0)
  rwa [Rat.one_mul] at this
 have hvge : -(a - placedQ (nearQ t) p + (a - placedQ (nearQ t) p)) ≤ s := by
  rw [hv, ← Rat.neg_mul]
  have := Rat.mul_le_mul_of_nonneg_right k2 (Rat.le_of_lt hs0)
  rwa [Rat.one_mul] at this
 refine ⟨placedQ t.floor p, placedQ t.ceil p, placedQ (nearQ t) p, placedQ (t.ceil - t.floor) p, s, a - placedQ (nearQ t) p, a - placedQ (nearQ t) p + (a - placedQ (nearQ t) p), ?_, ?_, ?_, ?_, ?_, cmpQ_le lo_le, cmpQ_ge hi_ge, ?_, ?_, ?_, ?_, cmpQ_le hvle, cmpQ_le hvge⟩
 · rw [numR_is]; exact limR_fits b1 (by decide) (by decide)
 · rw [numR_is]; exact limR_fits b2 (by decide) (by decide)
 · rw [numR_is]; exact limR_fits b3 (by decide) (by decide)
 · exact sub_is hgap bg (by decide) (by decide)
 · rw [numR_is, hst]; exact limR_fits b4 (by decide) (by decide)
 · rcases ceil_cases t with ⟨h1, h2⟩ | ⟨h1, h2, _⟩
   · left
     rw [h1, Int.sub_self]
     refine ⟨rfl, cmpQ_eq (by rw [pq]; exact Rat.zero_mul _), cmpQ_eq ?_⟩
     rw [pq, ← hat, ← h2]
   · right
     rw [h1, show t.floor + 1 - t.floor = 1 by omega, hst]
     refine ⟨rfl, ?_, rfl, ?_⟩
     · show cmpQ s 0 ≠ 0
       rw [cmpQ_gt hs0]; decide
     · have h3 : placedQ t.floor p < a := by rw [pq, ← hat]; exact Rat.mul_lt_mul_of_pos_right h2 hs0
       show cmpQ _ _ ≠ 0
       rw [cmpQ_lt h3]; decide
 · rcases near_cases t with h | ⟨h, h2⟩
   · exact .inl h
   · exact .inr (by omega)
 · exact sub_is rfl bw (by decide) (by decide)
 · refine add_is rfl ?_ (show 49 ≤ 64 by decide) (show 48 ≤ 64 by decide)
   have b2 : Bd (2 : Rat) 1 1 := by unfold Bd; decide +kernel
   have e : a - placedQ (nearQ t) p + (a - placedQ (nearQ t) p) = 2 * (a - placedQ (nearQ t) p) := by grind
   rw [e]
   exact (b2.mul bw).mono (by omega) (by omega)
theorem negs_facts {a : Rat} (ha : Bd a 20 20) {p : Nat} (hp : p < 20) :
 ∃ y v : Rat, (movedQ (-a) p).floor = -(movedQ a p).ceil ∧ nearQ (movedQ (-a) p) = -nearQ (movedQ a p) ∧ numR (movedQ (-a) p).floor p = (some (-y), 0) ∧ numR (movedQ a p).ceil p = (some y, 0) ∧ numR (nearQ (movedQ a p)) p = (some v, 0) ∧ numR (nearQ (movedQ (-a) p)) p = (some (-v), 0) := by
 have e : movedQ (-a) p = -movedQ a p := by unfold movedQ; rw [Rat.neg_mul]
 have hb : Bd (movedQ a p) 23 23 := moved_bd ha (by omega)
 have hcb := ceil_between (movedQ a p)
 have hnb := near_between (movedQ a p)
 have b2 := placed_bd hb hcb.1 hcb.2 (p := p) (by omega)
 have b3 := placed_bd hb hnb.1 hnb.2 (p := p) (by omega)
 rw [e, floor_neg, near_neg]
 refine ⟨placedQ (movedQ a p).ceil p, placedQ (nearQ (movedQ a p)) p, rfl, rfl, ?_, ?_, ?_, ?_⟩
 · rw [numR_is, placed_neg]; exact limR_fits b2.neg (by decide) (by decide)
 · rw [numR_is]; exact limR_fits b2 (by decide) (by decide)
 · rw [numR_is]; exact limR_fits b3 (by decide) (by decide)
 · rw [numR_is, placed_neg]; exact limR_fits b3.neg (by decide) (by decide)
theorem moved_le {a b : Rat} (h : a ≤ b) (p : Nat) : movedQ a p ≤ movedQ b p := Rat.mul_le_mul_of_nonneg_right h (Rat.le_of_lt (by rw [← Rat.zpow_natCast]; exact ten_gt _))
theorem dorder_facts {a b : Rat} (ha : Bd a 40 40) (hb : Bd b 40 40) (h : a ≤ b) {p : Nat} (hp : p < 20) (f : Rat → Int) (hf : f = Rat.floor ∨ f = Rat.ceil ∨ f = nearQ) :
 ∃ x y : Rat, numR (f (movedQ a p)) p = (some x, 0) ∧ numR (f (movedQ b p)) p = (some y, 0) ∧ cmpR (some x) (some y) ≤ 0 := by
 have h1 : ∀ t : Rat, t.floor ≤ f t ∧ f t ≤ t.floor + 1 := fun t => by
  rcases hf with rfl | rfl | rfl
  · omega
  · exact ceil_between t
  · exact near_between t
 have hm : f (movedQ a p) ≤ f (movedQ b p) := by
  have h2 := moved_le h p
  rcases hf with rfl | rfl | rfl
  · exact Rat.floor_monotone h2
  · exact ceil_monotone h2
  · exact near_monotone h2
 have b1 := placed_bd (moved_bd ha (p := p) (by omega)) (h1 _).1 (h1 _).2 (p := p) (by omega)
 have b2 := placed_bd (moved_bd hb (p := p) (by omega)) (h1 _).1 (h1 _).2 (p := p) (by omega)
 exact ⟨placedQ (f (movedQ a p)) p, placedQ (f (movedQ b p)) p, by rw [numR_is]; exact limR_fits b1 (by decide) (by decide), by rw [numR_is]; exact limR_fits b2 (by decide) (by decide), cmpQ_le (placed_le hm)⟩
theorem dwhole_floor (v : Int) (p : Nat) : (movedQ (v : Rat) p).floor = v * ((10 ^ p : Nat) : Int) ∧ (movedQ (v : Rat) p).ceil = v * ((10 ^ p : Nat) : Int) := by
 have e : movedQ (v : Rat) p = ((v * ((10 ^ p : Nat) : Int) : Int) : Rat) := by
  unfold movedQ
  rw [Rat.intCast_mul, Rat.intCast_natCast, Rat.natCast_pow]; rfl
 rw [e]
 exact ⟨Rat.floor_intCast _, Rat.ceil_intCast _⟩
theorem dmore {a : Rat} (h : 0 ≤ a.num) {p : Nat} (hp : p ≠ 0) : ∃ d, d < 10 ∧ pointT (movedQ a (p + 1)).floor (p + 1) = pointT (movedQ a p).floor p ++ [48 + d] := by
 have e1 := floor_up h p
 have e2 := floor_up h (p + 1)
 unfold movedQ
 rw [e1, e2]
 have hd : 0 < a.den := Nat.pos_of_ne_zero a.den_nz
 obtain ⟨n, hn⟩ : ∃ n, a.num.natAbs * 10 ^ p = n := ⟨_, rfl⟩
 have hn2 : a.num.natAbs * 10 ^ (p + 1) = n * 10 := by rw [Nat.pow_succ, ← Nat.mul_assoc, hn]
 rw [hn, hn2]
 have e3 : n * 10 / a.den / 10 = n / a.den := by rw [Nat.div_div_eq_div_mul, Nat.mul_comm a.den 10, ← Nat.div_div_eq_div_mul, Nat.mul_div_cancel _ (by decide)]
 have e4 : n * 10 / a.den = n / a.den * 10 + n * 10 / a.den % 10 := by omega
 refine ⟨n * 10 / a.den % 10, Nat.mod_lt _ (by decide), ?_⟩
 rw [← point_more (Nat.mod_lt _ (by decide)) hp, ← e4]
end Go.Proofs.YtjikaojffgjndaaGreatDoor

/- Mathematics of how a decimal text is made: noughts one by one, the point, the minus. No condition. -/
namespace Go.Proofs.YtjikaojffgjndaaGreatDoor
open Go.RowKit Limb
set_option linter.unusedVariables false
theorem zero_bytes : bytesOf ⟨#[48]⟩ = [48] := rfl
theorem dot_bytes : bytesOf ⟨#[46]⟩ = [46] := rfl
theorem minus_bytes : bytesOf ⟨#[45]⟩ = [45] := rfl
theorem pad_grow {D : ByteArray} {k : Nat} {l : List Nat} (h : bytesOf D = List.replicate k 48 ++ l) : bytesOf ((⟨#[48]⟩ : ByteArray) ++ D) = List.replicate (k + 1) 48 ++ l := by
 rw [bytesOf_append, zero_bytes, h, List.replicate_succ]; rfl
theorem pad_size {D : ByteArray} {k : Nat} {l : List Nat} (h : bytesOf D = List.replicate k 48 ++ l) : D.size = k + l.length := by
 rw [← length_bytesOf, h, List.length_append, List.length_replicate]
theorem pad_done {D : ByteArray} {k p : Nat} {l : List Nat} (h : bytesOf D = List.replicate k 48 ++ l) (hk : k ≤ p + 1 - l.length) (hs : p < D.size) : bytesOf D = padL p l := by
 have h2 := pad_size h
 rw [h]
 unfold padL
 rw [show k = p + 1 - l.length by omega]
theorem point_none {D : ByteArray} {x : Int} (h : bytesOf D = padL 0 (decT x.natAbs)) : litSg (sg x) ++ bytesOf D = pointT x 0 := by
 unfold pointT
 rw [h, if_pos rfl]
theorem point_set {D : ByteArray} {x : Int} {p q : Nat} (h : bytesOf D = padL p (decT x.natAbs)) (hq : D.size = q + p) (hp : p ≠ 0) :
 litSg (sg x) ++ bytesOf (D.extract 0 q ++ (⟨#[46]⟩ : ByteArray) ++ D.extract q D.size) = pointT x p := by
 have hl : (padL p (decT x.natAbs)).length - p = q := by rw [← h, length_bytesOf]; omega
 unfold pointT headL tailL
 rw [if_neg hp, hl, bytesOf_append, bytesOf_append, dot_bytes, bytes_cut, bytes_cut, h]
 rw [List.drop_zero, Nat.sub_zero, List.take_of_length_le (l := List.drop q _) (by rw [List.length_drop, ← h, length_bytesOf]; exact Nat.le_refl _)]
 simp
theorem str_of {T : ByteArray} {l : List Nat} (h : bytesOf T = l) : T = strOf l := by rw [← h, strOf_bytesOf]
theorem signed_neg {T : ByteArray} {x : Int} {l : List Nat} (hx : sg x = true) (h : litSg (sg x) ++ bytesOf T = l) : (⟨#[45]⟩ : ByteArray) ++ T = strOf l := by
 rw [hx] at h
 exact str_of (by rw [bytesOf_append, minus_bytes]; exact h)
theorem signed_pos {T : ByteArray} {x : Int} {l : List Nat} (hx : sg x = false) (h : litSg (sg x) ++ bytesOf T = l) : T = strOf l := by
 rw [hx] at h
 exact str_of h
theorem floor_zero {q : Rat} {p T : Nat} (hT : 10 ^ p = T) (h : q.num < 0 → q.num.natAbs * T % q.den = 0) : zOf (sg q.num) (q.num.natAbs * T / q.den) = (movedQ q p).floor := by
 subst hT
 unfold movedQ zOf sg
 by_cases h0 : q.num < 0
 · rw [floor_down h0, if_pos (h h0)]; simp [h0]
 · rw [floor_up (by omega)]; simp [h0]
theorem floor_less {q : Rat} {p T : Nat} (hT : 10 ^ p = T) (h0 : q.num < 0) (h : q.num.natAbs * T % q.den ≠ 0) : zOf (sg q.num) (q.num.natAbs * T / q.den) + (-1) = (movedQ q p).floor := by
 subst hT
 unfold movedQ zOf sg
 rw [floor_down h0, if_neg h]; simp [h0]; omega
theorem floor_ceil {q : Rat} {p T : Nat} (hT : 10 ^ p = T) : (movedQ q p).ceil = if q.num.natAbs * T % q.den = 0 then (movedQ q p).floor else (movedQ q p).floor + 1 := by
 subst hT
 have hm : movedQ q p * (q.den : Rat) = ((q.num * ((10 ^ p : Nat) : Int) : Int) : Rat) := scaled_mk q p
 have hd : (0 : Rat) < (q.den : Rat) := Rat.natCast_pos.2 (Nat.pos_of_ne_zero q.den_nz)
 have habs : (q.num * ((10 ^ p : Nat) : Int)).natAbs = q.num.natAbs * 10 ^ p := by rw [Int.natAbs_mul, Int.natAbs_natCast]
 rcases ceil_cases (movedQ q p) with ⟨h1, h2⟩ | ⟨h1, h2, h3⟩
 · rw [h1, if_pos]
   have h4 : q.num * ((10 ^ p : Nat) : Int) = (movedQ q p).floor * (q.den : Int) := by
    rw [← Rat.intCast_inj, ← hm, Rat.intCast_mul, ← h2]; rfl
   rw [← habs, h4, Int.natAbs_mul, Int.natAbs_natCast, Nat.mul_mod_left]
 · rw [h1, if_neg]
   intro h5
   have h6 : (q.den : Int) ∣ q.num * ((10 ^ p : Nat) : Int) := by
    rw [← Int.natAbs_dvd_natAbs, habs, Int.natAbs_natCast]; exact Nat.dvd_of_mod_eq_zero h5
   obtain ⟨k, hk⟩ := h6
   have h7 : movedQ q p = (k : Rat) := by
    have h8 : movedQ q p * (q.den : Rat) = (k : Rat) * (q.den : Rat) := by rw [hm, hk, Rat.intCast_mul, Rat.mul_comm]; rfl
    have h9 := congrArg (fun x : Rat => x * (q.den : Rat)⁻¹) h8
    simpa only [Rat.mul_assoc, Rat.mul_inv_cancel _ (Rat.ne_of_gt hd), Rat.mul_one] using h9
   rw [h7, Rat.floor_intCast] at h2
   exact absurd h2 Rat.lt_irrefl
end Go.Proofs.YtjikaojffgjndaaGreatDoor

/- Mathematics of a number times a power of ten as the greatest whole number below it and what is left above that. No condition. -/
namespace Go.Proofs.YtjikaojffgjndaaGreatDoor
open Go.RowKit Limb
set_option linter.unusedVariables false
def leftQ (q : Rat) (p : Nat) : Nat := if q.num < 0 ∧ q.num.natAbs * 10 ^ p % q.den ≠ 0 then q.den - q.num.natAbs * 10 ^ p % q.den else q.num.natAbs * 10 ^ p % q.den
theorem left_keep {q : Rat} {p T : Nat} (hT : 10 ^ p = T) (h : q.num < 0 → q.num.natAbs * T % q.den = 0) : leftQ q p = q.num.natAbs * T % q.den := by
 subst hT; unfold leftQ; exact if_neg (fun ⟨a, b⟩ => b (h a))
theorem left_turn {q : Rat} {p T : Nat} (hT : 10 ^ p = T) (h0 : q.num < 0) (h : q.num.natAbs * T % q.den ≠ 0) : leftQ q p = q.den - q.num.natAbs * T % q.den := by
 subst hT; unfold leftQ; exact if_pos ⟨h0, h⟩
theorem left_lt (q : Rat) (p : Nat) : leftQ q p < q.den := by
 have hd := Nat.pos_of_ne_zero q.den_nz
 have h := Nat.mod_lt (q.num.natAbs * 10 ^ p) hd
 unfold leftQ
 split
 · rename_i h2; omega
 · exact h
theorem left_spec (q : Rat) (p : Nat) : q.num * ((10 ^ p : Nat) : Int) = (movedQ q p).floor * (q.den : Int) + (leftQ q p : Int) := by
 obtain ⟨T, hT⟩ : ∃ T : Nat, 10 ^ p = T := ⟨_, rfl⟩
 have hd := Nat.pos_of_ne_zero q.den_nz
 have hm := Nat.mod_lt (q.num.natAbs * T) hd
 have hs := Nat.div_add_mod (q.num.natAbs * T) q.den
 obtain ⟨N, hN⟩ : ∃ N : Nat, q.num.natAbs * T = N := ⟨_, rfl⟩
 have hsign : q.num * (T : Int) = if q.num < 0 then -(N : Int) else (N : Int) := by
  rw [← hN, Int.natCast_mul]
  split
  · rename_i h
    have : ((q.num.natAbs : Nat) : Int) = -q.num := by omega
    rw [this, Int.neg_mul, Int.neg_neg]
  · rename_i h
    have : ((q.num.natAbs : Nat) : Int) = q.num := by omega
    rw [this]
 have hsI : (q.den : Int) * ((N / q.den : Nat) : Int) + ((N % q.den : Nat) : Int) = (N : Int) := by
  rw [hN] at hs
  rw [← Int.natCast_mul, ← Int.natCast_add, hs]
 rw [hT, hsign]
 by_cases h0 : q.num < 0
 · rw [if_pos h0]
   by_cases hr : N % q.den = 0
   · have hr2 : q.num.natAbs * T % q.den = 0 := by rw [hN]; exact hr
     rw [← floor_zero hT (fun _ => hr2), left_keep hT (fun _ => hr2), hN, hr]
     rw [hr] at hsI
     unfold zOf sg
     simp only [decide_eq_true h0, if_true]
     grind
   · have hr2 : q.num.natAbs * T % q.den ≠ 0 := by rw [hN]; exact hr
     rw [← floor_less hT h0 hr2, left_turn hT h0 hr2, hN]
     have hc : ((q.den - N % q.den : Nat) : Int) = (q.den : Int) - ((N % q.den : Nat) : Int) := by rw [hN] at hm; omega
     rw [hc]
     unfold zOf sg
     simp only [decide_eq_true h0, if_true]
     grind
 · rw [if_neg h0]
   rw [← floor_zero hT (fun h => absurd h h0), left_keep hT (fun h => absurd h h0), hN]
   unfold zOf sg
   simp only [decide_eq_false h0, Bool.false_eq_true, if_false]
   grind
theorem left_nought {q : Rat} {p : Nat} : leftQ q p = 0 ↔ q.num.natAbs * 10 ^ p % q.den = 0 := by
 have hd := Nat.pos_of_ne_zero q.den_nz
 have h := Nat.mod_lt (q.num.natAbs * 10 ^ p) hd
 unfold leftQ
 split
 · rename_i h2; omega
 · exact Iff.rfl
theorem left_ceil (q : Rat) (p : Nat) : (movedQ q p).ceil = if leftQ q p = 0 then (movedQ q p).floor else (movedQ q p).floor + 1 := by
 rw [floor_ceil (T := 10 ^ p) rfl]
 by_cases h : leftQ q p = 0
 · rw [if_pos h, if_pos (left_nought.1 h)]
 · rw [if_neg h, if_neg (mt left_nought.2 h)]
theorem left_rat (q : Rat) (p : Nat) : (movedQ q p - ((movedQ q p).floor : Rat)) * (q.den : Rat) = (leftQ q p : Rat) := by
 have h1 : movedQ q p * (q.den : Rat) = ((q.num * ((10 ^ p : Nat) : Int) : Int) : Rat) := scaled_mk q p
 rw [left_spec, Rat.intCast_add, Rat.intCast_mul] at h1
 have h2 : (((q.den : Nat) : Int) : Rat) = (q.den : Rat) := Rat.intCast_natCast _
 have h3 : (((leftQ q p : Nat) : Int) : Rat) = (leftQ q p : Rat) := Rat.intCast_natCast _
 rw [h2, h3] at h1
 grind
theorem cmpQ_nats (a b : Nat) : cmpQ (a : Rat) (b : Rat) = cmpI a b := by
 unfold cmpQ
 rw [Rat.num_natCast, Rat.num_natCast, Rat.den_natCast, Rat.den_natCast]
 rcases Nat.lt_trichotomy a b with h | h | h
 · rw [cmpI_lt h]; exact cmpZ_lt (by omega)
 · subst h; rw [cmpI_eq]; exact cmpZ_eq rfl
 · rw [cmpI_gt h]; exact cmpZ_gt (by omega)
theorem left_side (q : Rat) (p : Nat) : cmpQ ((movedQ q p - ((movedQ q p).floor : Rat)) + (movedQ q p - ((movedQ q p).floor : Rat))) 1 = cmpI (leftQ q p * 2) q.den := by
 have hd : (0 : Rat) < (q.den : Rat) := Rat.natCast_pos.2 (Nat.pos_of_ne_zero q.den_nz)
 have h := left_rat q p
 obtain ⟨d, hdd⟩ : ∃ d, movedQ q p - ((movedQ q p).floor : Rat) = d := ⟨_, rfl⟩
 rw [hdd] at h ⊢
 have h1 : (d + d) * (q.den : Rat) = ((leftQ q p * 2 : Nat) : Rat) := by
  rw [Rat.natCast_mul, ← h]
  have : ((2 : Nat) : Rat) = 2 := rfl
  rw [this]; grind
 have h2 : (1 : Rat) * (q.den : Rat) = ((q.den : Nat) : Rat) := Rat.one_mul _
 have h3 := cmpQ_mul (d + d) 1 (q.den : Rat)
 rw [h1, h2, cmpQ_nats, cmpQ_gt hd, Int.mul_one] at h3
 exact h3.symm
theorem left_near (q : Rat) (p : Nat) : nearQ (movedQ q p) = if 0 < cmpI (leftQ q p * 2) q.den ∨ (cmpI (leftQ q p * 2) q.den = 0 ∧ (movedQ q p).floor.natAbs % 2 = 1) then (movedQ q p).floor + 1 else (movedQ q p).floor := by
 unfold nearQ
 rw [left_side]
theorem floor_digits {q : Rat} (hf : fitsQ q = true) {p : Nat} (hp : p ≤ 60) : (movedQ q p).floor.natAbs + 1 < 10 ^ 679 := by
 have hd := Nat.pos_of_ne_zero q.den_nz
 have h := left_spec q p
 have hl := left_lt q p
 simp only [fitsQ, Bool.and_eq_true, decide_eq_true_eq] at hf
 obtain ⟨T, hT⟩ : ∃ T : Nat, 10 ^ p = T := ⟨_, rfl⟩
 have hT60 : T ≤ 10 ^ 60 := by rw [← hT]; exact Nat.pow_le_pow_right (by decide) hp
 rw [hT] at h
 obtain ⟨z, hz⟩ : ∃ z, (movedQ q p).floor = z := ⟨_, rfl⟩
 rw [hz] at h ⊢
 have h1 : (z * (q.den : Int)).natAbs ≤ q.num.natAbs * T + leftQ q p := by
  have e : z * (q.den : Int) = q.num * (T : Int) - (leftQ q p : Int) := by omega
  have e2 : (q.num * (T : Int)).natAbs = q.num.natAbs * T := by rw [Int.natAbs_mul, Int.natAbs_natCast]
  rw [e]; omega
 rw [Int.natAbs_mul, Int.natAbs_natCast] at h1
 have h2 : z.natAbs ≤ q.num.natAbs * T + 1 := by
  rcases Nat.lt_or_ge (q.num.natAbs * T + 1) z.natAbs with h3 | h3
  · exfalso
    have h4 : (q.num.natAbs * T + 2) * q.den ≤ z.natAbs * q.den := Nat.mul_le_mul_right _ h3
    have h5 : (q.num.natAbs * T) * 1 ≤ (q.num.natAbs * T) * q.den := Nat.mul_le_mul_left _ hd
    rw [Nat.add_mul] at h4
    omega
  · exact h3
 have h6 : q.num.natAbs * T ≤ (4294967296 ^ 64) * 10 ^ 60 := Nat.mul_le_mul (Nat.le_of_lt hf.1) hT60
 have h7 : (4294967296 ^ 64) * 10 ^ 60 + 2 < 10 ^ 679 := by decide +kernel
 exact Nat.lt_of_le_of_lt (Nat.succ_le_succ (Nat.le_trans h2 (Nat.succ_le_succ h6))) h7
theorem room_digits {q : Rat} (hf : fitsQ q = true) {p : Nat} (hp : p ≤ 60) {v : Int} (h1 : (movedQ q p).floor ≤ v) (h2 : v ≤ (movedQ q p).floor + 1) : (decT v.natAbs).length ≤ 699 := by
 have h := floor_digits hf hp
 obtain ⟨K, hK⟩ : ∃ K, 10 ^ 679 = K := ⟨_, rfl⟩
 rw [hK] at h
 have h3 : v.natAbs < K := by omega
 rw [← hK] at h3
 exact Nat.le_trans (decT_len_le h3 (by decide)) (by decide)
end Go.Proofs.YtjikaojffgjndaaGreatDoor

/- What package decimal's own struct tells (next, down, up, near), as contracts over memory. Conditions: sizes of at most so many limbs. -/
namespace Go.Proofs.YtjikaojffgjndaaGreatDoor
open Go.RowKit Limb
set_option linter.unusedVariables false
theorem sc_size : (Tryz.prog.info? 83).map (·.size) = some 4 := by kernel_rfl
structure SC (w : World) (A : Option Addr) (n c : Nat) (A' : Option Addr) (n' c' : Nat) (B' : Option Addr) (m' d' : Nat) (z : Int) (l b : Nat) : Prop where
 fl : ZZ w (sg z) A n c (limbs z.natAbs) z 73
 lf : NN w A' n' c' (limbs l) l 64
 bt : NN w B' m' d' (limbs b) b 64
theorem SC.below {w w' : World} {A : Option Addr} {n c : Nat} {A' : Option Addr} {n' c' : Nat} {B' : Option Addr} {m' d' : Nat} {z : Int} {l b : Nat} (h : SC w A n c A' n' c' B' m' d' z l b) (hb : Below w.heap.size w w') : SC w' A n c A' n' c' B' m' d' z l b := ⟨h.fl.below hb, h.lf.below hb, h.bt.below hb⟩
theorem zz_up {w : World} {s : Bool} {A : Option Addr} {n c : Nat} {xs : List Nat} {z : Int} {L L' : Nat} (h : ZZ w s A n c xs z L) (hL : L ≤ L') : ZZ w s A n c xs z L' := ⟨⟨h.nn.isN, h.nn.val, h.nn.cap, Nat.le_trans h.nn.le hL⟩, h.sgn⟩
theorem shiftV_one (a : Nat) : shiftV a 1 = a * 2 := shiftV_up (k := 1) (by decide) (by decide)
theorem cmpI_bounds (a b : Nat) : cmpI a b = -1 ∨ cmpI a b = 0 ∨ cmpI a b = 1 := by
 rcases Nat.lt_trichotomy a b with h | h | h
 · exact .inl (cmpI_lt h)
 · subst h; exact .inr (.inl (cmpI_eq _))
 · exact .inr (.inr (cmpI_gt h))
theorem bit_odd2 (n : Nat) : n.testBit (0 : Int).toNat = decide (n % 2 = 1) := by
 show n.testBit 0 = _
 rw [Nat.testBit_zero]
section
variable {w : World} {s s' : Bool} {A B A' B' : Option Addr} {n c m d n' c' m' d' : Nat} {xs ys xs' ys' : List Nat} {x y z : Int} {q : Rat} {l : Nat} {a b L L' : Nat}
set_option maxHeartbeats 4000000 in
set_option maxRecDepth 100000 in
theorem scNext_c (hx : SC w A n c A' n' c' B' m' d' z l b) (z1 : Int) (hz : z + 1 = z1) :
 Calls Tryz.prog 104 #[.agg #[.bool (sg z), .slice A n c, .slice A' n' c', .slice B' m' d']] w fun e w' => ∃ A2 n2 c2, e = .returned (.agg #[.bool (sg z1), .slice A2 n2 c2]) ∧ ZZ w' (sg z1) A2 n2 c2 (limbs z1.natAbs) z1 74 ∧ Below w.heap.size w w' := by
 have HE := Lib.hid hz
 clear hz
 have b0 := below_new w (.cells #[Value.bool (sg z), Value.slice A n c, Value.slice A' n' c', Value.slice B' m' d'] 83)
 have bz := below_new (w.alloc (.cells #[Value.bool (sg z), Value.slice A n c, Value.slice A' n' c', Value.slice B' m' d'] 83)) zbox
 have HW := Lib.hid (below_two b0 bz)
 have HS := Lib.hid (hx.below HW.out)
 have r0 := (row4_new w 83 (.bool (sg z)) (.slice A n c) (.slice A' n' c') (.slice B' m' d')).below bz
 have rz : ZB ((w.alloc (.cells #[Value.bool (sg z), Value.slice A n c, Value.slice A' n' c', Value.slice B' m' d'] 83)).alloc zbox) (w.alloc (.cells #[Value.bool (sg z), Value.slice A n c, Value.slice A' n' c', Value.slice B' m' d'] 83)).heap.size := row2_new (w.alloc (.cells #[Value.bool (sg z), Value.slice A n c, Value.slice A' n' c', Value.slice B' m' d'] 83)) _ _ _
 simp only [World.size_alloc] at rz
 have HR0 := Lib.hid r0
 have HZ := Lib.hid rz
 have Hq : RowKit.Hid (w.heap.size ≤ w.heap.size + 1) := Nat.le_succ _
 clear b0 bz r0 rz hx
 go_enter Tryz.func104, Tryz.ntmps104
 go_wp2_with fail
 generalize (w.alloc (.cells #[Value.bool (sg z), Value.slice A n c, Value.slice A' n' c', Value.slice B' m' d'] 83)).alloc zbox = wS at *
 refine region_free 4 1 [3, 4, 5, 6] ?aF16 (fun wx => Below wS.heap.size wS wx) (fun k vv wx => match k with
  | 0 => vv = .pointer (some ⟨w.heap.size, 0, none⟩)
  | 1 => vv = .agg #[.bool (sg z), .slice A n c]
  | 2 => ∃ (e0 : Option Addr) (e1 : Nat) (e2 : Nat), vv = .agg #[.bool (sg (1 : Int)), .slice e0 e1 e2] ∧ ZZ wx (sg (1 : Int)) e0 e1 e2 (limbs (1 : Int).natAbs) (1 : Int) 2
  | _ => ∃ (e0 : Option Addr) (e1 : Nat) (e2 : Nat), vv = .agg #[.bool (sg z1), .slice e0 e1 e2] ∧ ZZ wx (sg z1) e0 e1 e2 (limbs z1.natAbs) z1 74)
  (fun k => false) (by kernel_rfl) ?haF16 rfl (by kernel_rfl) (by kernel_rfl) (fun _ _ _ _ _ h => h) ?hSb16 ?hPb16 ?hS16 ?hop16 ?hfin16
 case haF16 =>
  intro vals
  simp only [fillAll, List.getElem?_cons_zero, List.getElem?_cons_succ, Act.put, List.setIfInBounds_toArray, List.set_cons_zero, List.set_cons_succ]
  exact rfl
 case hSb16 => exact fun wx w2 hb hS => below_two hS hb
 case hPb16 =>
  intro k v wa wb hb h
  match k, h with
  | 0, h => exact h
  | 1, h => exact h
  | 2, ⟨e0, e1, e2, h1, g0⟩ => exact ⟨e0, e1, e2, h1, g0.below hb⟩
  | _ + 3, ⟨e0, e1, e2, h1, g0⟩ => exact ⟨e0, e1, e2, h1, g0.below hb⟩
 case hS16 => exact (Below.refl _ _).drew
 case hop16 =>
  refine .cons (k := 0) ?_ (.cons (k := 1) ?_ (.cons (k := 2) ?_ (.cons (k := 3) ?_ (.nil))))
  all_goals intro vals wr hS hd KC hK
  all_goals (show Oper.wp _ _ _ _ _ _; dsimp only)
  · go_simp
    refine hK _ _ rfl (Below.refl _ _) (by first | rfl | simp) (fun h => by cases h)
  · have d0 : vals 0 = _ := hd 0 (by decide +kernel)
    rw [d0]
    have z0 := (HR0.out.below hS).c0
    have z1 := (HR0.out.below hS).c1
    go_simp
    refine hK _ _ rfl (Below.refl _ _) (by first | rfl | simp) (fun h => by cases h)
  · go_simp
    go_at_call 32
    with_reducible refine (wOf_c 1 (by decide) (by decide) _).mono ?_
    rintro e w2 ⟨r0, r1, r2, rfl, f0, bn_r⟩
    refine hK _ _ rfl bn_r ⟨_, _, _, rfl, f0⟩ (fun h => by cases h)
  · have d1 : vals 1 = _ := hd 1 (by decide +kernel)
    obtain ⟨A_2_0, n_2_1, n_2_2, d2, h_2_0⟩ := hd 2 (by decide +kernel)
    rw [d1, d2]
    go_simp
    go_at_call 76
    with_reducible refine (wAdd_c (HS.out.fl.below hS) h_2_0 74 (by decide) (by decide) (by decide) z1 HE.out).mono ?_
    rintro e w2 ⟨r0, r1, r2, rfl, f0, bn_r⟩
    refine hK _ _ rfl bn_r ⟨_, _, _, rfl, f0⟩ (fun h => by cases h)
 case hfin16 =>
  intro vals wr hS hP hne
  obtain ⟨y0, y1, y2, ez, h3_0⟩ := hP 3 (by decide)
  have hZ3 := HZ.out.below hS
  obtain ⟨e0, e1, f0, f1⟩ := hZ3.cells
  have HF := Lib.hid (hZ3.fill (.bool (sg z1)) (.slice y0 y1 y2))
  have HP := Lib.hid (h3_0.put hZ3 (.bool (sg z1)) (.slice y0 y1 y2))
  have HB := Lib.hid (below_fill (below_two HW.out hS) Hq.out (.bool (sg z1)) (.slice y0 y1 y2))
  try dsimp only
  rw [ez]
  refine wpAny_ready (rs := [4]) (by kernel_rfl) (by simp) (AllReady.cons rfl (fun KC hK => ?_) AllReady.nil)
  go_simp
  refine hK _ _ ?_
  clear hK KC
  refine wpAny_done (by kernel_rfl) ?_ _
  go_wp2
  refine bodyPost_ret (results_cell_row rfl _ _ (w.heap.size + 1) 25 #[.bool (sg z1), .slice y0 y1 y2] (0, 0) _ rfl HF.out Tryz.underlying25 rfl int_size) rfl ?_
  exact ⟨y0, y1, y2, rfl, HP.out, HB.out⟩
set_option maxHeartbeats 4000000 in
set_option maxRecDepth 100000 in
theorem scDown_c (hx : SC w A n c A' n' c' B' m' d' z l b) :
 Calls Tryz.prog 50 #[.agg #[.bool (sg z), .slice A n c, .slice A' n' c', .slice B' m' d']] w fun e w' => ∃ A2 n2 c2, e = .returned (.agg #[.bool (sg z), .slice A2 n2 c2]) ∧ ZZ w' (sg z) A2 n2 c2 (limbs z.natAbs) z 74 ∧ Below w.heap.size w w' := by
 have b0 := below_new w (.cells #[Value.bool (sg z), Value.slice A n c, Value.slice A' n' c', Value.slice B' m' d'] 83)
 have bz := below_new (w.alloc (.cells #[Value.bool (sg z), Value.slice A n c, Value.slice A' n' c', Value.slice B' m' d'] 83)) (.cells #[Value.bool (sg z), Value.slice A n c] 25)
 have HW := Lib.hid (below_two b0 bz)
 have HP := Lib.hid (hx.fl.below HW.out)
 have rz := row2_new (w.alloc (.cells #[Value.bool (sg z), Value.slice A n c, Value.slice A' n' c', Value.slice B' m' d'] 83)) 25 (.bool (sg z)) (.slice A n c)
 simp only [World.size_alloc] at rz
 have HF := Lib.hid rz
 have r0 := (row4_new w 83 (.bool (sg z)) (.slice A n c) (.slice A' n' c') (.slice B' m' d')).below (below_new (w.alloc (.cells #[Value.bool (sg z), Value.slice A n c, Value.slice A' n' c', Value.slice B' m' d'] 83)) zbox)
 have c00 := r0.c0
 have c01 := r0.c1
 have rzz := row2_new (w.alloc (.cells #[Value.bool (sg z), Value.slice A n c, Value.slice A' n' c', Value.slice B' m' d'] 83)) 25 (.bool false) (.slice none 0 0)
 simp only [World.size_alloc] at rzz
 have e0 := rzz.c0
 have e1 := rzz.c1
 have f0 := rzz.free 0
 have f1 := rzz.free 1
 clear b0 bz rz r0 rzz hx
 go_enter Tryz.func50, Tryz.ntmps50
 go_wp2
 refine bodyPost_ret (results_cell_row rfl _ _ (w.heap.size + 1) 25 #[.bool (sg z), .slice A n c] (0, 0) _ rfl HF.out Tryz.underlying25 rfl int_size) rfl ?_
 exact ⟨A, n, c, rfl, zz_up HP.out (by decide), HW.out⟩
set_option maxHeartbeats 4000000 in
set_option maxRecDepth 100000 in
theorem scUp_c (hx : SC w A n c A' n' c' B' m' d' z l b) (z1 : Int) (hz : (if l = 0 then z else z + 1) = z1) :
 Calls Tryz.prog 51 #[.agg #[.bool (sg z), .slice A n c, .slice A' n' c', .slice B' m' d']] w fun e w' => ∃ A2 n2 c2, e = .returned (.agg #[.bool (sg z1), .slice A2 n2 c2]) ∧ ZZ w' (sg z1) A2 n2 c2 (limbs z1.natAbs) z1 74 ∧ Below w.heap.size w w' := by
 by_cases h0 : l = 0
 · have hE : z = z1 := by rw [← hz, if_pos h0]
   subst hE
   have HB0 : RowKit.Hid (((blen l : Nat) : Int) = 0) := by show _ = _; rw [h0]; rfl
   clear h0 hz
   have b0 := below_new w (.cells #[Value.bool (sg z), Value.slice A n c, Value.slice A' n' c', Value.slice B' m' d'] 83)
   have bz := below_new (w.alloc (.cells #[Value.bool (sg z), Value.slice A n c, Value.slice A' n' c', Value.slice B' m' d'] 83)) zbox
   have HW := Lib.hid (below_two b0 bz)
   have HS := Lib.hid (hx.below HW.out)
   have r0 := (row4_new w 83 (.bool (sg z)) (.slice A n c) (.slice A' n' c') (.slice B' m' d')).below bz
   have rz : ZB ((w.alloc (.cells #[Value.bool (sg z), Value.slice A n c, Value.slice A' n' c', Value.slice B' m' d'] 83)).alloc zbox) (w.alloc (.cells #[Value.bool (sg z), Value.slice A n c, Value.slice A' n' c', Value.slice B' m' d'] 83)).heap.size := row2_new (w.alloc (.cells #[Value.bool (sg z), Value.slice A n c, Value.slice A' n' c', Value.slice B' m' d'] 83)) _ _ _
   simp only [World.size_alloc] at rz
   have HR0 := Lib.hid r0
   have HZ := Lib.hid rz
   have Hq : RowKit.Hid (w.heap.size ≤ w.heap.size + 1) := Nat.le_succ _
   clear b0 bz r0 rz hx
   go_enter Tryz.func51, Tryz.ntmps51
   go_wp2_with fail
   generalize (w.alloc (.cells #[Value.bool (sg z), Value.slice A n c, Value.slice A' n' c', Value.slice B' m' d'] 83)).alloc zbox = wS at *
   have c00 := HR0.out.c0
   have c01 := HR0.out.c1
   have c02 := HR0.out.c2
   have c03 := HR0.out.c3
   go_wp2_with fail
   clear c00 c01 c02 c03
   refine (bits_c HS.out.lf (by decide) 0 HB0.out).mono ?_
   rintro e w8 ⟨rfl, rfl⟩
   have c00 := HR0.out.c0
   have c01 := HR0.out.c1
   have c02 := HR0.out.c2
   have c03 := HR0.out.c3
   obtain ⟨e0, e1, f0, f1⟩ := HZ.out.cells
   have HF := Lib.hid (HZ.out.fill (.bool (sg z)) (.slice A n c))
   have HP := Lib.hid (HS.out.fl.put HZ.out (.bool (sg z)) (.slice A n c))
   have HB := Lib.hid (below_fill HW.out Hq.out (.bool (sg z)) (.slice A n c))
   go_wp2
   refine bodyPost_ret (results_cell_row rfl _ _ (w.heap.size + 1) 25 #[.bool (sg z), .slice A n c] (0, 0) _ rfl HF.out Tryz.underlying25 rfl int_size) rfl ?_
   exact ⟨A, n, c, rfl, zz_up HP.out (by decide), HB.out⟩
 · have HE : RowKit.Hid (z + 1 = z1) := by show _ = _; rw [← hz, if_neg h0]
   obtain ⟨v, hv⟩ : ∃ v : Int, ((blen l : Nat) : Int) = v := ⟨_, rfl⟩
   have hv0 : (v == 0) = false := by
    rw [beq_eq_false_iff_ne, ← hv]
    have := mt blen_eq_zero.1 h0
    omega
   have HB0 := Lib.hid hv
   clear h0 hz hv
   have b0 := below_new w (.cells #[Value.bool (sg z), Value.slice A n c, Value.slice A' n' c', Value.slice B' m' d'] 83)
   have bz := below_new (w.alloc (.cells #[Value.bool (sg z), Value.slice A n c, Value.slice A' n' c', Value.slice B' m' d'] 83)) zbox
   have HW := Lib.hid (below_two b0 bz)
   have HS := Lib.hid (hx.below HW.out)
   have r0 := (row4_new w 83 (.bool (sg z)) (.slice A n c) (.slice A' n' c') (.slice B' m' d')).below bz
   have rz : ZB ((w.alloc (.cells #[Value.bool (sg z), Value.slice A n c, Value.slice A' n' c', Value.slice B' m' d'] 83)).alloc zbox) (w.alloc (.cells #[Value.bool (sg z), Value.slice A n c, Value.slice A' n' c', Value.slice B' m' d'] 83)).heap.size := row2_new (w.alloc (.cells #[Value.bool (sg z), Value.slice A n c, Value.slice A' n' c', Value.slice B' m' d'] 83)) _ _ _
   simp only [World.size_alloc] at rz
   have HR0 := Lib.hid r0
   have HZ := Lib.hid rz
   have Hq : RowKit.Hid (w.heap.size ≤ w.heap.size + 1) := Nat.le_succ _
   clear b0 bz r0 rz hx
   go_enter Tryz.func51, Tryz.ntmps51
   go_wp2_with fail
   generalize (w.alloc (.cells #[Value.bool (sg z), Value.slice A n c, Value.slice A' n' c', Value.slice B' m' d'] 83)).alloc zbox = wS at *
   have c00 := HR0.out.c0
   have c01 := HR0.out.c1
   have c02 := HR0.out.c2
   have c03 := HR0.out.c3
   go_wp2_with fail
   clear c00 c01 c02 c03
   refine (bits_c HS.out.lf (by decide) v HB0.out).mono ?_
   rintro e w8 ⟨rfl, rfl⟩
   have c00 := HR0.out.c0
   have c01 := HR0.out.c1
   have c02 := HR0.out.c2
   have c03 := HR0.out.c3
   go_wp2_with fail
   clear c00 c01 c02 c03
   refine (scNext_c HS.out z1 HE.out).mono ?_
   rintro e w9 ⟨A2, n2, c2, rfl, h2, bn⟩
   replace HZ := Lib.hid (HZ.out.below bn)
   replace HW := Lib.hid (below_two HW.out bn)
   have H2 := Lib.hid h2
   clear bn h2
   obtain ⟨e0, e1, f0, f1⟩ := HZ.out.cells
   have HF := Lib.hid (HZ.out.fill (.bool (sg z1)) (.slice A2 n2 c2))
   have HP := Lib.hid (H2.out.put HZ.out (.bool (sg z1)) (.slice A2 n2 c2))
   have HB := Lib.hid (below_fill HW.out Hq.out (.bool (sg z1)) (.slice A2 n2 c2))
   go_wp2
   refine bodyPost_ret (results_cell_row rfl _ _ (w.heap.size + 1) 25 #[.bool (sg z1), .slice A2 n2 c2] (0, 0) _ rfl HF.out Tryz.underlying25 rfl int_size) rfl ?_
   exact ⟨A2, n2, c2, rfl, HP.out, HB.out⟩
set_option maxHeartbeats 4000000 in
set_option maxRecDepth 100000 in
theorem scNear_c (hx : SC w A n c A' n' c' B' m' d' z l b) (z1 : Int) (hz : (if 0 < cmpI (l * 2) b ∨ (cmpI (l * 2) b = 0 ∧ z.natAbs % 2 = 1) then z + 1 else z) = z1) :
 Calls Tryz.prog 52 #[.agg #[.bool (sg z), .slice A n c, .slice A' n' c', .slice B' m' d']] w fun e w' => ∃ A2 n2 c2, e = .returned (.agg #[.bool (sg z1), .slice A2 n2 c2]) ∧ ZZ w' (sg z1) A2 n2 c2 (limbs z1.natAbs) z1 74 ∧ Below w.heap.size w w' := by
 obtain ⟨v, hv⟩ : ∃ v, cmpI (l * 2) b = v := ⟨_, rfl⟩
 rw [hv] at hz
 have HV := Lib.hid hv
 have hvb := cmpI_bounds (l * 2) b
 rw [hv] at hvb
 have HVB := Lib.hid hvb
 have HE := Lib.hid hz
 have HSh : RowKit.Hid (shiftV l 1 = l * 2) := shiftV_one l
 have HSl : RowKit.Hid (l * 2 < 4294967296 ^ 65) := by
  show _ < _
  have h := lt_pow hx.lf
  have e : (4294967296 : Nat) ^ 65 = 4294967296 ^ 64 * 4294967296 := Nat.pow_succ (n := 4294967296) (m := 64)
  rw [e]; omega
 clear hz hv hvb
 have b0 := below_new w (.cells #[Value.bool (sg z), Value.slice A n c, Value.slice A' n' c', Value.slice B' m' d'] 83)
 have bz := below_new (w.alloc (.cells #[Value.bool (sg z), Value.slice A n c, Value.slice A' n' c', Value.slice B' m' d'] 83)) zbox
 have HW := Lib.hid (below_two b0 bz)
 have HS := Lib.hid (hx.below HW.out)
 have r0 := (row4_new w 83 (.bool (sg z)) (.slice A n c) (.slice A' n' c') (.slice B' m' d')).below bz
 have rz : ZB ((w.alloc (.cells #[Value.bool (sg z), Value.slice A n c, Value.slice A' n' c', Value.slice B' m' d'] 83)).alloc zbox) (w.alloc (.cells #[Value.bool (sg z), Value.slice A n c, Value.slice A' n' c', Value.slice B' m' d'] 83)).heap.size := row2_new (w.alloc (.cells #[Value.bool (sg z), Value.slice A n c, Value.slice A' n' c', Value.slice B' m' d'] 83)) _ _ _
 simp only [World.size_alloc] at rz
 have HR0 := Lib.hid r0
 have HZ := Lib.hid rz
 have Hq : RowKit.Hid (w.heap.size ≤ w.heap.size + 1) := Nat.le_succ _
 clear b0 bz r0 rz hx
 go_enter Tryz.func52, Tryz.ntmps52
 go_wp2_with fail
 generalize (w.alloc (.cells #[Value.bool (sg z), Value.slice A n c, Value.slice A' n' c', Value.slice B' m' d'] 83)).alloc zbox = wS at *
 refine region_free 6 1 [4, 5, 6, 7, 8, 9] ?aF17 (fun wx => Below wS.heap.size wS wx) (fun k vv wx => match k with
  | 0 => vv = .pointer (some ⟨w.heap.size, 2, none⟩)
  | 1 => vv = .slice A' n' c'
  | 2 => ∃ (e0 : Option Addr) (e1 : Nat) (e2 : Nat), vv = .slice e0 e1 e2 ∧ NN wx e0 e1 e2 (limbs (l * 2)) (l * 2) 65
  | 3 => vv = .pointer (some ⟨w.heap.size, 3, none⟩)
  | 4 => vv = .slice B' m' d'
  | _ => vv = .int .i64 v)
  (fun k => false) (by kernel_rfl) ?haF17 rfl (by kernel_rfl) (by kernel_rfl) (fun _ _ _ _ _ h => h) ?hSb17 ?hPb17 ?hS17 ?hop17 ?hfin17
 case haF17 =>
  intro vals
  simp only [fillAll, List.getElem?_cons_zero, List.getElem?_cons_succ, Act.put, List.setIfInBounds_toArray, List.set_cons_zero, List.set_cons_succ]
  exact rfl
 case hSb17 => exact fun wx w2 hb hS => below_two hS hb
 case hPb17 =>
  intro k v wa wb hb h
  match k, h with
  | 0, h => exact h
  | 1, h => exact h
  | 2, ⟨e0, e1, e2, h1, g0⟩ => exact ⟨e0, e1, e2, h1, g0.below hb⟩
  | 3, h => exact h
  | 4, h => exact h
  | _ + 5, h => exact h
 case hS17 => exact (Below.refl _ _).drew
 case hop17 =>
  refine .cons (k := 0) ?_ (.cons (k := 1) ?_ (.cons (k := 2) ?_ (.cons (k := 3) ?_ (.cons (k := 4) ?_ (.cons (k := 5) ?_ (.nil))))))
  all_goals intro vals wr hS hd KC hK
  all_goals (show Oper.wp _ _ _ _ _ _; dsimp only)
  · go_simp
    refine hK _ _ rfl (Below.refl _ _) (by first | rfl | simp) (fun h => by cases h)
  · have d0 : vals 0 = _ := hd 0 (by decide +kernel)
    rw [d0]
    have z0 := (HR0.out.below hS).c2
    go_simp
    refine hK _ _ rfl (Below.refl _ _) (by first | rfl | simp) (fun h => by cases h)
  · have d1 : vals 1 = _ := hd 1 (by decide +kernel)
    rw [d1]
    go_simp
    go_at_call 106
    with_reducible refine (mulShift_c (HS.out.lf.below hS) 1 (by decide) (by decide) (l * 2) 65 HSh.out HSl.out (by decide)).mono ?_
    rintro e w2 ⟨r0, r1, r2, rfl, f0, bn_r⟩
    refine hK _ _ rfl bn_r ⟨_, _, _, rfl, f0⟩ (fun h => by cases h)
  · go_simp
    refine hK _ _ rfl (Below.refl _ _) (by first | rfl | simp) (fun h => by cases h)
  · have d3 : vals 3 = _ := hd 3 (by decide +kernel)
    rw [d3]
    have z0 := (HR0.out.below hS).c3
    go_simp
    refine hK _ _ rfl (Below.refl _ _) (by first | rfl | simp) (fun h => by cases h)
  · obtain ⟨A_2_0, n_2_1, n_2_2, d2, h_2_0⟩ := hd 2 (by decide +kernel)
    have d4 : vals 4 = _ := hd 4 (by decide +kernel)
    rw [d2, d4]
    go_simp
    go_at_call 105
    with_reducible refine (cmp_c h_2_0 (HS.out.bt.below hS) (by decide) (by decide) v HV.out).mono ?_
    rintro e w2 ⟨rfl, bn_r⟩
    refine hK _ _ rfl bn_r rfl (fun h => by cases h)
 case hfin17 =>
  intro vals wr hS hP hne
  have ez_5 : vals 5 = _ := hP 5 (by decide)
  replace HS := Lib.hid (HS.out.below hS)
  replace HR0 := Lib.hid (HR0.out.below hS)
  replace HZ := Lib.hid (HZ.out.below hS)
  replace HW := Lib.hid (below_two HW.out hS)
  try dsimp only
  rw [ez_5]
  refine wpAny_ready (rs := [6]) (by kernel_rfl) (by simp) (AllReady.cons rfl (fun KC hK => ?_) AllReady.nil)
  go_simp
  refine hK _ _ ?_
  clear hK KC
  refine wpAny_done (by kernel_rfl) ?_ _
  generalize wr = w8 at *
  rcases HVB.out with hv | hv | hv
  · subst hv
    have hE : z = z1 := by rw [← HE.out]; exact (if_neg (by rintro (h | ⟨h, _⟩); exact absurd h (by decide); exact absurd h (by decide))).symm
    subst hE
    have c00 := HR0.out.c0
    have c01 := HR0.out.c1
    have c02 := HR0.out.c2
    have c03 := HR0.out.c3
    obtain ⟨e0, e1, f0, f1⟩ := HZ.out.cells
    have HF := Lib.hid (HZ.out.fill (.bool (sg z)) (.slice A n c))
    have HP := Lib.hid (HS.out.fl.put HZ.out (.bool (sg z)) (.slice A n c))
    have HB := Lib.hid (below_fill HW.out Hq.out (.bool (sg z)) (.slice A n c))
    go_wp2
    refine bodyPost_ret (results_cell_row rfl _ _ (w.heap.size + 1) 25 #[.bool (sg z), .slice A n c] (0, 0) _ rfl HF.out Tryz.underlying25 rfl int_size) rfl ?_
    exact ⟨A, n, c, rfl, zz_up HP.out (by decide), HB.out⟩
  · subst hv
    by_cases hb : z.natAbs % 2 = 1
    · replace HE : RowKit.Hid (z + 1 = z1) := by show _ = _; rw [← HE.out]; exact (if_pos (.inr ⟨rfl, hb⟩)).symm
      have HB0 : RowKit.Hid (z.natAbs.testBit (0 : Int).toNat = true) := by show _ = _; rw [bit_odd2]; exact decide_eq_true hb
      clear hb
      have c00 := HR0.out.c0
      have c01 := HR0.out.c1
      have c02 := HR0.out.c2
      have c03 := HR0.out.c3
      go_wp2_with fail
      clear c00 c01 c02 c03
      refine (bit_c HS.out.fl.nn (by decide) 0 (by decide) (by decide) true HB0.out).mono ?_
      rintro e w8 ⟨rfl, rfl⟩
      have c00 := HR0.out.c0
      have c01 := HR0.out.c1
      have c02 := HR0.out.c2
      have c03 := HR0.out.c3
      go_wp2_with fail
      clear c00 c01 c02 c03
      refine (scNext_c HS.out z1 HE.out).mono ?_
      rintro e w9 ⟨A2, n2, c2, rfl, h2, bn⟩
      replace HZ := Lib.hid (HZ.out.below bn)
      replace HW := Lib.hid (below_two HW.out bn)
      have H2 := Lib.hid h2
      clear bn h2
      obtain ⟨e0, e1, f0, f1⟩ := HZ.out.cells
      have HF := Lib.hid (HZ.out.fill (.bool (sg z1)) (.slice A2 n2 c2))
      have HP := Lib.hid (H2.out.put HZ.out (.bool (sg z1)) (.slice A2 n2 c2))
      have HB := Lib.hid (below_fill HW.out Hq.out (.bool (sg z1)) (.slice A2 n2 c2))
      go_wp2
      refine bodyPost_ret (results_cell_row rfl _ _ (w.heap.size + 1) 25 #[.bool (sg z1), .slice A2 n2 c2] (0, 0) _ rfl HF.out Tryz.underlying25 rfl int_size) rfl ?_
      exact ⟨A2, n2, c2, rfl, HP.out, HB.out⟩
    · have hE : z = z1 := by rw [← HE.out]; exact (if_neg (by rintro (h | ⟨_, h⟩); exact absurd h (by decide); exact hb h)).symm
      subst hE
      have HB0 : RowKit.Hid (z.natAbs.testBit (0 : Int).toNat = false) := by show _ = _; rw [bit_odd2]; exact decide_eq_false hb
      clear hb
      have c00 := HR0.out.c0
      have c01 := HR0.out.c1
      have c02 := HR0.out.c2
      have c03 := HR0.out.c3
      go_wp2_with fail
      clear c00 c01 c02 c03
      refine (bit_c HS.out.fl.nn (by decide) 0 (by decide) (by decide) false HB0.out).mono ?_
      rintro e w8 ⟨rfl, rfl⟩
      have c00 := HR0.out.c0
      have c01 := HR0.out.c1
      have c02 := HR0.out.c2
      have c03 := HR0.out.c3
      obtain ⟨e0, e1, f0, f1⟩ := HZ.out.cells
      have HF := Lib.hid (HZ.out.fill (.bool (sg z)) (.slice A n c))
      have HP := Lib.hid (HS.out.fl.put HZ.out (.bool (sg z)) (.slice A n c))
      have HB := Lib.hid (below_fill HW.out Hq.out (.bool (sg z)) (.slice A n c))
      go_wp2
      refine bodyPost_ret (results_cell_row rfl _ _ (w.heap.size + 1) 25 #[.bool (sg z), .slice A n c] (0, 0) _ rfl HF.out Tryz.underlying25 rfl int_size) rfl ?_
      exact ⟨A, n, c, rfl, zz_up HP.out (by decide), HB.out⟩
  · subst hv
    replace HE : RowKit.Hid (z + 1 = z1) := by show _ = _; rw [← HE.out]; exact (if_pos (.inl (by decide))).symm
    have c00 := HR0.out.c0
    have c01 := HR0.out.c1
    have c02 := HR0.out.c2
    have c03 := HR0.out.c3
    go_wp2_with fail
    clear c00 c01 c02 c03
    refine (scNext_c HS.out z1 HE.out).mono ?_
    rintro e w9 ⟨A2, n2, c2, rfl, h2, bn⟩
    replace HZ := Lib.hid (HZ.out.below bn)
    replace HW := Lib.hid (below_two HW.out bn)
    have H2 := Lib.hid h2
    clear bn h2
    obtain ⟨e0, e1, f0, f1⟩ := HZ.out.cells
    have HF := Lib.hid (HZ.out.fill (.bool (sg z1)) (.slice A2 n2 c2))
    have HP := Lib.hid (H2.out.put HZ.out (.bool (sg z1)) (.slice A2 n2 c2))
    have HB := Lib.hid (below_fill HW.out Hq.out (.bool (sg z1)) (.slice A2 n2 c2))
    go_wp2
    refine bodyPost_ret (results_cell_row rfl _ _ (w.heap.size + 1) 25 #[.bool (sg z1), .slice A2 n2 c2] (0, 0) _ rfl HF.out Tryz.underlying25 rfl int_size) rfl ?_
    exact ⟨A2, n2, c2, rfl, HP.out, HB.out⟩
end
end Go.Proofs.YtjikaojffgjndaaGreatDoor
