/- Of any two whole numbers: they have one text just if they are one, and a text begins with a sign just if the number is below 0. No condition. -/
import Derived.Test.YtgdchljbjnhchaaDoorM4
import Derived.ChangeMaps5
import Derived.Lay
import Derived.SevenTiedAt
import Derived.Deep.RegionWith
import Derived.Deep.RegionHeld3
import Derived.Test.YtgdchljbjnhchaaDoorCards
import Derived.Test.YtgdchljbjnhchaaDoorTie
/- Mathematics of the order of whole numbers; a number's text and back. No condition. -/
namespace Go.Proofs.YtgdchljbjnhchaaDoor
open Go.RowKit Limb

theorem cmpZ_swap (x y : Int) : cmpZ y x = -cmpZ x y := by unfold cmpZ; (repeat' split) <;> omega
theorem cmpZ_add (x y z : Int) : cmpZ (x + z) (y + z) = cmpZ x y := by unfold cmpZ; (repeat' split) <;> omega
theorem cmpZ_neg (x y : Int) : cmpZ (-x) (-y) = -cmpZ x y := by unfold cmpZ; (repeat' split) <;> omega
theorem cmpZ_mul (x y z : Int) : cmpZ (x * z) (y * z) = cmpZ x y * cmpZ z 0 := by
  rcases Int.lt_trichotomy z 0 with hz | rfl | hz
  · rw [cmpZ_lt hz]
    rcases Int.lt_trichotomy x y with h | rfl | h
    · rw [cmpZ_lt h, cmpZ_gt (Int.mul_lt_mul_of_neg_right h hz)]; rfl
    · rw [cmpZ_eq rfl, cmpZ_eq rfl]; rfl
    · rw [cmpZ_gt h, cmpZ_lt (Int.mul_lt_mul_of_neg_right h hz)]; rfl
  · rw [Int.mul_zero, Int.mul_zero, cmpZ_eq rfl, Int.mul_zero]
  · rw [cmpZ_gt hz, Int.mul_one]
    rcases Int.lt_trichotomy x y with h | rfl | h
    · rw [cmpZ_lt h, cmpZ_lt (Int.mul_lt_mul_of_pos_right h hz)]
    · rw [cmpZ_eq rfl, cmpZ_eq rfl]
    · rw [cmpZ_gt h, cmpZ_gt (Int.mul_lt_mul_of_pos_right h hz)]
theorem wrap_sign {v : Int} (h : -1 ≤ v ∧ v ≤ 1) : IntKind.i64.wrap v = v ∧ wrap64 v = v := by
  have : v = -1 ∨ v = 0 ∨ v = 1 := by omega
  rcases this with rfl | rfl | rfl <;> exact ⟨by decide +kernel, by decide +kernel⟩
theorem sign_mul {x y : Int} (hx : -1 ≤ x ∧ x ≤ 1) (hy : -1 ≤ y ∧ y ≤ 1) : -1 ≤ x * y ∧ x * y ≤ 1 := by
  have h1 : x = -1 ∨ x = 0 ∨ x = 1 := by omega
  rcases h1 with rfl | rfl | rfl <;> omega
theorem zback {z : Int} {S : ByteArray} (h : strOf (zT z) = S) (hl : (decT z.natAbs).length ≤ 2000) : zOk (bytesOf S) = true ∧ zV (bytesOf S) = z := by
  subst h
  rw [bytesOf_strOf (zT_bytes z)]
  exact ⟨zOk_T hl, zV_T hl⟩

end Go.Proofs.YtgdchljbjnhchaaDoor

/- The statements' helper Long, and the mathematics of texts behind a sign. No condition. -/
namespace Go.Proofs.YtgdchljbjnhchaaDoor
open Go.RowKit Limb
set_option linter.unusedVariables false

theorem long_c (s : Bool) (A : Option Addr) (n c : Nat) (v : Bool) (hv : decide (60 < n) = v) (w : World) :
    Calls Tryd.prog 17 #[.agg #[.bool s, .slice A n c]] w fun e w' => e = .returned (.bool v) ∧ Below w.heap.size w w' := by
  have HW := Lib.hid (below_new w (.cells #[Value.bool s, Value.slice A n c] 25))
  by_cases h : 60 < n
  · obtain rfl : v = true := by rw [← hv]; simp [h]
    have h2 : (60 : Int) < n := by omega
    clear hv
    go_enter Tryd.func17, Tryd.ntmps17
    go_wp2
    go_ret
    exact ⟨by first | rfl | (simp; omega), HW.out⟩
  · obtain rfl : v = false := by rw [← hv]; simp [h]
    have h2 : (n : Int) ≤ 60 := by omega
    clear hv
    go_enter Tryd.func17, Tryd.ntmps17
    go_wp2
    go_ret
    exact ⟨by first | rfl | (simp; omega), HW.out⟩

theorem cmpZ_zero (x y : Int) : (cmpZ x y == 0) = decide (x = y) := by
  rcases Int.lt_trichotomy x y with h | h | h
  · rw [cmpZ_lt h, decide_eq_false (by omega)]; rfl
  · rw [cmpZ_eq h, decide_eq_true h]; rfl
  · rw [cmpZ_gt h, decide_eq_false (by omega)]; rfl
theorem zT_beq (x y : Int) : ((strOf (zT x)).toList == (strOf (zT y)).toList) = decide (x = y) := by
  rw [str_beq (zT_bytes _) (zT_bytes _), decide_eq_decide]
  exact ⟨zT_inj, congrArg zT⟩
theorem zT_len (x : Int) : 0 < (zT x).length ∧ (zT x).length ≤ (decT x.natAbs).length + 1 := by
  by_cases h : x < 0
  · rw [zT_neg h]; simp
  · rw [zT_pos (by omega)]; have := decT_pos x.natAbs; omega
theorem zT_first_neg {x : Int} (h : x < 0) : lim (zT x) 0 = 45 := by rw [zT_neg h]; rfl
theorem zT_first_pos {x : Int} (h : 0 ≤ x) : lim (zT x) 0 ≠ 45 := by
  rw [zT_pos h]
  intro e
  cases hd : decT x.natAbs with
  | nil => exact absurd hd (decT_ne _)
  | cons y l =>
    rw [hd] at e
    have e2 : y = 45 := e
    exact dec_head x.natAbs (by rw [hd, e2]; rfl)
theorem minus_neg {x : Int} (h : x < 0) : zOk (45 :: zT x) = false := by
  rw [zOk_minus rfl]
  show (numOk (zT x) && _) = false
  have : numOk (zT x) = false := numOk_bad (k := 0) (zT_len x).1 (by rw [zT_first_neg h]; rfl)
  rw [this]; rfl
theorem minus_zero : zOk (45 :: zT 0) = false := by decide +kernel
theorem minus_pos {x : Int} (h : 0 < x) (hl : (decT x.natAbs).length ≤ 2000) : zOk (45 :: zT x) = true ∧ zV (45 :: zT x) = -x := by
  have e : 45 :: zT x = zT (-x) := by
    rw [zT_pos (by omega), zT_neg (by omega)]
    congr 2
    omega
  rw [e]
  have hl2 : (decT (-x).natAbs).length ≤ 2000 := by rw [Int.natAbs_neg]; exact hl
  exact ⟨zOk_T hl2, zV_T hl2⟩
theorem minus_bytes {x : Int} {S M : ByteArray} (h : strOf (zT x) = S) (hM : (⟨#[45]⟩ : ByteArray) ++ S = M) : bytesOf M = 45 :: zT x := by
  rw [← hM, ← h, minus_text, bytesOf_strOf (bytes_cons.2 ⟨by decide, zT_bytes x⟩)]

/-- A row of the call's own is no block of a struct. -/
theorem OwnN.noRow {w : World} {B q : Nat} {A : Option Addr} {n c : Nat} {zs : List Nat} {u v : Value} (h : OwnN w B A n c zs) (hq : Row2 w q 25 u v) : ∀ b o s, A = some ⟨b, o, s⟩ → b ≠ q := by
  rintro b o s rfl rfl
  rcases h.1.2 with ⟨hv, _⟩ | ⟨g, cap, cur, hv, hg, hh, _⟩
  · injection hv with hA; cases hA
  · injection hv with hA
    injection hA with hA
    injection hA with hA
    subst hA
    unfold Row2 at hq
    rw [hq] at hh
    injection hh with hh
    injection hh with _ ht
    exact absurd ht (by decide)
theorem Row2.keeps {w w' : World} {q : Nat} {T : TypeId} {u v : Value} (h : Row2 w q T u v) {o : Obj} {row : Option Nat} (hg : (w.alloc o).grownBy w' row) (hr : some q ≠ row) : Row2 w' q T u v := by
  have hlt := h.lt
  unfold Row2 at h ⊢
  rw [hg.block q (by simp; omega) hr, heap_alloc_old w o hlt]
  exact h
theorem noBlock {A : Option Addr} {n c q : Nat} (h : ∀ b o s, A = some ⟨b, o, s⟩ → b ≠ q) : some q ≠ (Value.slice A n c).ownBlock := by
  match A, h with
  | none, _ => simp [Value.ownBlock]
  | some ⟨b, o, s⟩, h =>
    intro e
    simp only [Value.ownBlock] at e
    injection e with e
    exact h b o s rfl e.symm
theorem Row2.set1 {w : World} {q : Nat} {T : TypeId} {u v : Value} (h : Row2 w q T u v) (x : Value) : Row2 (w.setCell ⟨q, 1, none⟩ x) q T u x := by
  unfold Row2 at h ⊢
  simp [World.setCell, Array.getElem?_modify, h]
theorem OwnN.set1 {w : World} {B q : Nat} {A : Option Addr} {n c : Nat} {zs : List Nat} (h : OwnN w B A n c zs) (hA : ∀ b o s, A = some ⟨b, o, s⟩ → b ≠ q) (k : Nat) (x : Value) : OwnN (w.setCell ⟨q, k, none⟩ x) B A n c zs :=
  h.others ((Others.refl q w).setCell k x) hA
theorem OwnN.set2 {w : World} {B q : Nat} {A : Option Addr} {n c : Nat} {zs : List Nat} (h : OwnN w B A n c zs) (hA : ∀ b o s, A = some ⟨b, o, s⟩ → b ≠ q) (x y : Value) : OwnN ((w.setCell ⟨q, 0, none⟩ x).setCell ⟨q, 1, none⟩ y) B A n c zs :=
  h.others (((Others.refl q w).setCell 0 x).setCell 1 y) hA
theorem replicate_next (xs : List Nat) (i : Nat) : xs ++ List.replicate i 0 ++ [0] = xs ++ List.replicate (i + 1) 0 := by
  rw [List.append_assoc, ← List.replicate_succ']
theorem val_noughts (xs : List Nat) (i : Nat) : Limb.val (xs ++ List.replicate i 0) = Limb.val xs := by
  have h := val_zeros i []
  rw [List.append_nil] at h
  rw [val_append, h]
  show _ + _ * (_ * 0) = _
  rw [Nat.mul_zero, Nat.mul_zero, Nat.add_zero]
theorem cmpZ_prod (x y : Int) : cmpZ (x * y) 0 = cmpZ x 0 * cmpZ y 0 := by
  have h := cmpZ_mul x 0 y
  rw [Int.zero_mul] at h
  exact h

/-- A copy of a list of limbs in a row of the call's own. -/
theorem own_o (A : Option Addr) (n c : Nat) (xs : List Nat) (a L : Nat) (w : World) (hx : NN w A n c xs a L) (h1 : L ≤ 1000000000) :
    Calls Tryd.prog 32 #[.slice A n c] w fun e w' => ∃ A2 c2, e = .returned (.slice A2 n c2) ∧ OwnN w' w.heap.size A2 n c2 xs ∧ Below w.heap.size w w' := by
  have hle := hx.le
  have Hx := Lib.hid (hx.below (below_new w (.cells #[] 37)))
  clear hx
  have Hown : RowKit.Hid ((w.alloc (.cells #[] 37)).ownsRow w.heap.size 37 1 (.slice (some ⟨w.heap.size, 0, none⟩) 0 0) 0 (([] : List Nat).map limV)) := own_lit w [] 0 rfl (by omega)
  have Hb : RowKit.Hid (0 ≤ 1000000000 ∧ L ≤ 1000000000 ∧ w.heap.size ≤ (w.alloc (.cells #[] 37)).heap.size ∧ Small []) := ⟨by omega, h1, by simp, small_nil⟩
  go_enter Tryd.func32, Tryd.ntmps32
  go_wp2_with (at_builtin; refine wpList_append_nat rfl _ _ rfl w.heap.size _ 0 [] rfl Hown A n c xs a L rfl Hx Hb ?_)
  intro A2 c2 w' how hgrow
  have hb2 := below_lit hgrow.out (Nat.le_refl _)
  have hn : OwnN w' w.heap.size A2 n c2 xs := by
    have h := how.out
    first | exact h | (rw [Nat.zero_add] at h; exact h)
  have Hn := Lib.hid hn
  clear how hgrow Hown Hb Hx hn
  go_wp2
  go_ret
  exact ⟨_, _, by first | rfl | (rw [Nat.zero_add]), Hn.out, hb2⟩

set_option maxHeartbeats 4000000 in
theorem ownInt_o {w : World} {s : Bool} {A : Option Addr} {n c : Nat} {xs : List Nat} {x : Int} {L : Nat} (hx : ZZ w s A n c xs x L) (h1 : L ≤ 1000000000) :
    Calls Tryd.prog 18 #[.agg #[.bool s, .slice A n c]] w fun e w' => ∃ A2 c2, e = .returned (.agg #[.bool s, .slice A2 n c2]) ∧ OwnN w' w.heap.size A2 n c2 xs ∧ Below w.heap.size w w' := by
  have b1 := below_new w (.cells #[Value.bool s, Value.slice A n c] 25)
  have b2 := below_new (w.alloc (.cells #[Value.bool s, Value.slice A n c] 25)) zbox
  have HW := Lib.hid (below_two b1 b2)
  have HN := Lib.hid (hx.nn.below HW.out)
  have r0 := (row2_new w 25 (.bool s) (.slice A n c)).below b2
  have rz : ZB ((w.alloc (.cells #[Value.bool s, Value.slice A n c] 25)).alloc zbox) (w.alloc (.cells #[Value.bool s, Value.slice A n c] 25)).heap.size := row2_new _ _ _ _
  simp only [World.size_alloc] at rz
  clear b1 b2 hx
  go_enter Tryd.func18, Tryd.ntmps18
  go_wp2
  generalize (w.alloc (.cells #[Value.bool s, Value.slice A n c] 25)).alloc zbox = w1 at *
  have HR0 := Lib.hid r0
  have HZ := Lib.hid rz
  have c00 := r0.c0
  have c01 := r0.c1
  clear r0 rz
  go_region_with (go_at_call 32; (with_reducible refine (own_o _ _ _ _ _ _ _ (by first | exact HN.out | exact HN.out.below (Below.refl _ _).drew) h1).mono ?_); rintro e w2 ⟨A2, c2, rfl, h2, bn⟩; have bn1 : Below w1.heap.size w1 w2 := (by first | exact bn | exact below_two (Below.refl _ _).drew bn); have d0 := (HR0.out.below bn1).c0; have d1 := (HR0.out.below bn1).c1; obtain ⟨e0, e1, f0, f1⟩ := (HZ.out.below bn1).cells)
  all_goals
    have HZ2 := HZ.out.below bn1
    have hno := h2.noRow HZ2
    have HO := Lib.hid ((h2.set2 hno (.bool s) (.slice A2 n c2)).mono (by first | exact HW.out.size | (have := HW.out.size; simpa using this)))
    have HB := Lib.hid (below_fill (g := w.heap.size + 1) (below_two HW.out bn1) (by omega) (.bool s) (.slice A2 n c2))
    have HF := Lib.hid (HZ2.fill (.bool s) (.slice A2 n c2))
    clear d0 d1 e0 e1 f0 f1 bn bn1 HZ2 h2 hno c00 c01
    go_wp2
    refine bodyPost_ret (results_cell_row rfl _ _ (w.heap.size + 1) 25 #[.bool s, .slice A2 n c2] (0, 0) _ rfl HF.out Tryd.underlying25 rfl int_size) rfl ?_
    exact ⟨A2, c2, rfl, HO.out, HB.out⟩

end Go.Proofs.YtgdchljbjnhchaaDoor

/- The walk of WholeTexts where the first number is below 0. Condition: at most 60 limbs. -/
namespace Go.Proofs.YtgdchljbjnhchaaDoor.lawWholeTexts
open Go.ChangeShapes Go.WideShapes Go.ChangeAt Go.RowKit Limb
set_option linter.unusedVariables false

set_option maxHeartbeats 40000000 in
set_option maxRecDepth 100000 in
theorem textsN (g_a : Bool) (A_a : Option Addr) (n_a c_a : Nat) (xs_a : List Nat) (g_b : Bool) (A_b : Option Addr) (n_b c_b : Nat) (xs_b : List Nat) (w : World) (i_a : IsN w A_a n_a xs_a) (hc_a : n_a ≤ c_a) (hm_a : c_a ≤ maxLen) (i_b : IsN w A_b n_b xs_b) (hc_b : n_b ≤ c_b) (hm_b : c_b ≤ maxLen) (T : Tab w) (l_a : n_a ≤ 60) (l_b : n_b ≤ 60) (hsg : zOf g_a (Limb.val xs_a) < 0) :
    Calls Tryd.prog 6 #[.agg #[.bool g_a, .slice A_a n_a c_a], .agg #[.bool g_b, .slice A_b n_b c_b]] w fun e w' => e = .returned (.bool true) ∧ Below w.heap.size w w' := by
  have HTab := Lib.hid T
  clear T
  have bw := bel_refl w
  have T_a : RowKit.Hid (decide (60 < n_a) = false) := by show _ = _; simp; omega
  have T_b : RowKit.Hid (decide (60 < n_b) = false) := by show _ = _; simp; omega
  have h_a : ZZ w g_a A_a n_a c_a xs_a (zOf g_a (Limb.val xs_a)) 60 := ZZ.of ⟨i_a, rfl, hc_a, by omega⟩
  generalize zOf g_a (Limb.val xs_a) = z_a at h_a hsg
  have h_b : ZZ w g_b A_b n_b c_b xs_b (zOf g_b (Limb.val xs_b)) 60 := ZZ.of ⟨i_b, rfl, hc_b, by omega⟩
  generalize zOf g_b (Limb.val xs_b) = z_b at h_b
  have h_ra := row2_new w 25 (.bool g_a) (.slice A_a n_a c_a)
  have bn := below_new w (.cells #[Value.bool g_a, Value.slice A_a n_a c_a] 25)
  replace h_a := h_a.below bn
  replace h_b := h_b.below bn
  replace HTab := Lib.hid (HTab.out.below bn)
  replace bw := below_two bw bn
  clear bn
  have h_rb := row2_new (w.alloc (.cells #[Value.bool g_a, Value.slice A_a n_a c_a] 25)) 25 (.bool g_b) (.slice A_b n_b c_b)
  have bn := below_new (w.alloc (.cells #[Value.bool g_a, Value.slice A_a n_a c_a] 25)) (.cells #[Value.bool g_b, Value.slice A_b n_b c_b] 25)
  replace h_a := h_a.below bn
  replace h_b := h_b.below bn
  replace h_ra := h_ra.below bn
  replace HTab := Lib.hid (HTab.out.below bn)
  replace bw := below_two bw bn
  clear bn
  simp only [World.size_alloc] at h_ra h_rb
  have hl : (decT z_a.natAbs).length ≤ 601 := Nat.le_trans (decT_len_limbs (lt_pow h_a.nn)) (by decide)
  obtain ⟨e, he⟩ : ∃ e, decide (z_a = z_b) = e := ⟨_, rfl⟩
  have hb := zT_beq z_a z_b
  have hve := cmpZ_zero z_a z_b
  rw [he] at hb hve
  have hf := zT_len z_a
  have hbyte : lim (zT z_a) 0 = 45 := zT_first_neg hsg
  obtain ⟨S, hS⟩ : ∃ S, strOf (zT z_a) = S := ⟨_, rfl⟩
  obtain ⟨U, hU⟩ : ∃ U, strOf (zT z_b) = U := ⟨_, rfl⟩
  rw [hS, hU] at hb
  have hSs : S.size = (zT z_a).length := by rw [← hS, size_strOf]
  have h0S : 0 < S.size := by omega
  have hS1 : S.size ≤ 1000 := by omega
  have h00 : ((S.size : Int) == 0) = false := by rw [beq_eq_false_iff_ne]; omega
  obtain ⟨d, hd⟩ : ∃ d, (S[0]'h0S).toNat = d := ⟨_, rfl⟩
  have hdl : d = lim (zT z_a) 0 := by rw [← hd, byte_at S 0 h0S, ← hS, bytesOf_strOf (zT_bytes z_a)]
  obtain rfl : d = 45 := hdl.trans hbyte
  obtain ⟨M, hM⟩ : ∃ M, (⟨#[45]⟩ : ByteArray) ++ S = M := ⟨_, rfl⟩
  have hMb := minus_bytes hS hM
  obtain ⟨v, hv⟩ : ∃ v, cmpZ z_a z_b = v := ⟨_, rfl⟩
  rw [hv] at hve
  have H2 : RowKit.Hid (cmpZ z_a 0 = (-1)) := cmpZ_lt hsg
  have HOk : RowKit.Hid (zOk (bytesOf M) = false) := by
    show _ = _
    rw [hMb]; exact minus_neg hsg
  have HZv : RowKit.Hid (zV (bytesOf M) = 0) := zV_no HOk.out
  have hS := Lib.hid hS
  have hU := Lib.hid hU
  have hv := Lib.hid hv
  clear he hf hbyte hSs hdl hMb hl hsg
  go_enter Tryd.func6, Tryd.ntmps6
  go_wp2_with fail
  generalize ((w.alloc (.cells #[Value.bool g_a, Value.slice A_a n_a c_a] 25)).alloc (.cells #[Value.bool g_b, Value.slice A_b n_b c_b] 25)) = wP at *
  obtain ⟨q_b, eg⟩ : ∃ g, g = w.heap.size + 1 := ⟨_, rfl⟩
  rw [← eg] at h_rb ⊢
  have E_b := Lib.hid eg
  clear eg
  obtain ⟨q_a, eg⟩ : ∃ g, g = w.heap.size := ⟨_, rfl⟩
  rw [← eg] at h_ra ⊢
  have E_a := Lib.hid eg
  clear eg
  refine (long_c g_a A_a n_a c_a false T_a.out _).mono ?_
  rintro e w1 ⟨rfl, bn⟩
  replace h_a := h_a.below bn
  replace h_b := h_b.below bn
  replace h_ra := h_ra.below bn
  replace h_rb := h_rb.below bn
  replace HTab := Lib.hid (HTab.out.below bn)
  replace bw := below_two bw bn
  clear bn
  have d_a0 := h_ra.c0
  have d_a1 := h_ra.c1
  have d_b0 := h_rb.c0
  have d_b1 := h_rb.c1
  go_wp2_with fail
  clear d_a0 d_a1 d_b0 d_b1
  refine (long_c g_b A_b n_b c_b false T_b.out _).mono ?_
  rintro e w2 ⟨rfl, bn⟩
  replace h_a := h_a.below bn
  replace h_b := h_b.below bn
  replace h_ra := h_ra.below bn
  replace h_rb := h_rb.below bn
  replace HTab := Lib.hid (HTab.out.below bn)
  replace bw := below_two bw bn
  clear bn
  have d_a0 := h_ra.c0
  have d_a1 := h_ra.c1
  have d_b0 := h_rb.c0
  have d_b1 := h_rb.c1
  go_wp2_with fail
  clear d_a0 d_a1 d_b0 d_b1
  generalize w2 = wS at *
  have KA : RowKit.Hid (∀ wx, Below wS.heap.size wS wx → (wx.cell? ⟨q_a, 0, none⟩ = some (.bool g_a) ∧ wx.cell? ⟨q_a, 1, none⟩ = some (.slice A_a n_a c_a) ∧ wx.cell? ⟨q_b, 0, none⟩ = some (.bool g_b) ∧ wx.cell? ⟨q_b, 1, none⟩ = some (.slice A_b n_b c_b) ∧ Below wS.heap.size wS wx)) := fun wx hb => ⟨(h_ra.below hb).c0, (h_ra.below hb).c1, (h_rb.below hb).c0, (h_rb.below hb).c1, hb⟩
  have KS : RowKit.Hid (∀ wx w2, (wx.cell? ⟨q_a, 0, none⟩ = some (.bool g_a) ∧ wx.cell? ⟨q_a, 1, none⟩ = some (.slice A_a n_a c_a) ∧ wx.cell? ⟨q_b, 0, none⟩ = some (.bool g_b) ∧ wx.cell? ⟨q_b, 1, none⟩ = some (.slice A_b n_b c_b) ∧ Below wS.heap.size wS wx) → Below wx.heap.size wx w2 → (w2.cell? ⟨q_a, 0, none⟩ = some (.bool g_a) ∧ w2.cell? ⟨q_a, 1, none⟩ = some (.slice A_a n_a c_a) ∧ w2.cell? ⟨q_b, 0, none⟩ = some (.bool g_b) ∧ w2.cell? ⟨q_b, 1, none⟩ = some (.slice A_b n_b c_b) ∧ Below wS.heap.size wS w2)) := fun wx w2 hS bn => KA.out _ (below_two hS.2.2.2.2 bn)
  have KU : RowKit.Hid (∀ (wx : World) (q : Nat) (u v : Value), (wx.cell? ⟨q_a, 0, none⟩ = some (.bool g_a) ∧ wx.cell? ⟨q_a, 1, none⟩ = some (.slice A_a n_a c_a) ∧ wx.cell? ⟨q_b, 0, none⟩ = some (.bool g_b) ∧ wx.cell? ⟨q_b, 1, none⟩ = some (.slice A_b n_b c_b) ∧ Below wS.heap.size wS wx) → wS.heap.size ≤ q → (((wx.setCell ⟨q, 0, none⟩ u).setCell ⟨q, 1, none⟩ v).cell? ⟨q_a, 0, none⟩ = some (.bool g_a) ∧ ((wx.setCell ⟨q, 0, none⟩ u).setCell ⟨q, 1, none⟩ v).cell? ⟨q_a, 1, none⟩ = some (.slice A_a n_a c_a) ∧ ((wx.setCell ⟨q, 0, none⟩ u).setCell ⟨q, 1, none⟩ v).cell? ⟨q_b, 0, none⟩ = some (.bool g_b) ∧ ((wx.setCell ⟨q, 0, none⟩ u).setCell ⟨q, 1, none⟩ v).cell? ⟨q_b, 1, none⟩ = some (.slice A_b n_b c_b) ∧ Below wS.heap.size wS ((wx.setCell ⟨q, 0, none⟩ u).setCell ⟨q, 1, none⟩ v))) := fun wx q u v hS hq => KA.out _ ((hS.2.2.2.2.setCell (p := ⟨q, 0, none⟩) hq u).setCell (p := ⟨q, 1, none⟩) hq v)
  have K_a : RowKit.Hid (∀ wx, (wx.cell? ⟨q_a, 0, none⟩ = some (.bool g_a) ∧ wx.cell? ⟨q_a, 1, none⟩ = some (.slice A_a n_a c_a) ∧ wx.cell? ⟨q_b, 0, none⟩ = some (.bool g_b) ∧ wx.cell? ⟨q_b, 1, none⟩ = some (.slice A_b n_b c_b) ∧ Below wS.heap.size wS wx) → ZZ wx g_a A_a n_a c_a xs_a z_a 60) := fun wx hS => h_a.below hS.2.2.2.2
  have K_b : RowKit.Hid (∀ wx, (wx.cell? ⟨q_a, 0, none⟩ = some (.bool g_a) ∧ wx.cell? ⟨q_a, 1, none⟩ = some (.slice A_a n_a c_a) ∧ wx.cell? ⟨q_b, 0, none⟩ = some (.bool g_b) ∧ wx.cell? ⟨q_b, 1, none⟩ = some (.slice A_b n_b c_b) ∧ Below wS.heap.size wS wx) → ZZ wx g_b A_b n_b c_b xs_b z_b 60) := fun wx hS => h_b.below hS.2.2.2.2
  have KR_a : RowKit.Hid (∀ wx, (wx.cell? ⟨q_a, 0, none⟩ = some (.bool g_a) ∧ wx.cell? ⟨q_a, 1, none⟩ = some (.slice A_a n_a c_a) ∧ wx.cell? ⟨q_b, 0, none⟩ = some (.bool g_b) ∧ wx.cell? ⟨q_b, 1, none⟩ = some (.slice A_b n_b c_b) ∧ Below wS.heap.size wS wx) → Row2 wx q_a 25 (.bool g_a) (.slice A_a n_a c_a)) := fun wx hS => h_ra.below hS.2.2.2.2
  have KR_b : RowKit.Hid (∀ wx, (wx.cell? ⟨q_a, 0, none⟩ = some (.bool g_a) ∧ wx.cell? ⟨q_a, 1, none⟩ = some (.slice A_a n_a c_a) ∧ wx.cell? ⟨q_b, 0, none⟩ = some (.bool g_b) ∧ wx.cell? ⟨q_b, 1, none⟩ = some (.slice A_b n_b c_b) ∧ Below wS.heap.size wS wx) → Row2 wx q_b 25 (.bool g_b) (.slice A_b n_b c_b)) := fun wx hS => h_rb.below hS.2.2.2.2
  have KT : RowKit.Hid (∀ wx, (wx.cell? ⟨q_a, 0, none⟩ = some (.bool g_a) ∧ wx.cell? ⟨q_a, 1, none⟩ = some (.slice A_a n_a c_a) ∧ wx.cell? ⟨q_b, 0, none⟩ = some (.bool g_b) ∧ wx.cell? ⟨q_b, 1, none⟩ = some (.slice A_b n_b c_b) ∧ Below wS.heap.size wS wx) → Tab wx) := fun wx hS => HTab.out.below hS.2.2.2.2
  have HF := Lib.hid bw
  have KF : RowKit.Hid (∀ wx, (wx.cell? ⟨q_a, 0, none⟩ = some (.bool g_a) ∧ wx.cell? ⟨q_a, 1, none⟩ = some (.slice A_a n_a c_a) ∧ wx.cell? ⟨q_b, 0, none⟩ = some (.bool g_b) ∧ wx.cell? ⟨q_b, 1, none⟩ = some (.slice A_b n_b c_b) ∧ Below wS.heap.size wS wx) → Below w.heap.size w wx) := fun wx hS => below_two HF.out hS.2.2.2.2
  obtain ⟨d_a0, d_a1, d_b0, d_b1, _⟩ := KA.out _ (Below.refl _ _)
  clear h_a h_b h_ra h_rb HTab bw
  clear HF
  go_cut [5, 6] from 16 to 19 (fun s5 s6 wx => s5 = .string S ∧ s6 = .string U ∧ RowKit.Hid (wx.cell? ⟨q_a, 0, none⟩ = some (.bool g_a) ∧ wx.cell? ⟨q_a, 1, none⟩ = some (.slice A_a n_a c_a) ∧ wx.cell? ⟨q_b, 0, none⟩ = some (.bool g_b) ∧ wx.cell? ⟨q_b, 1, none⟩ = some (.slice A_b n_b c_b) ∧ Below wS.heap.size wS wx))
  case first =>
    try dsimp only [List.append]
    go_region_held3 (fun wx => wx.cell? ⟨q_a, 0, none⟩ = some (.bool g_a) ∧ wx.cell? ⟨q_a, 1, none⟩ = some (.slice A_a n_a c_a) ∧ wx.cell? ⟨q_b, 0, none⟩ = some (.bool g_b) ∧ wx.cell? ⟨q_b, 1, none⟩ = some (.slice A_b n_b c_b) ∧ Below wS.heap.size wS wx) (first | assumption | exact KA.out _ ((Below.refl _ _).drew) | (with_reducible refine KS.out _ _ ?_ (below_new _ _); assumption)) (first
      | (go_at_call 16; (have mk := bn_s; clear mk); (with_reducible refine (wText_c (KT.out _ (by assumption)) (K_b.out _ (by assumption)) (by decide) U hU.out).mono ?_); rintro e w2 ⟨rfl, bn_t⟩; have hS2 := KS.out _ _ (by assumption) bn_t)
      | (go_at_call 16; (with_reducible refine (wText_c (KT.out _ (by assumption)) (K_a.out _ (by assumption)) (by decide) S hS.out).mono ?_); rintro e w2 ⟨rfl, bn_s⟩; have hS2 := KS.out _ _ (by assumption) bn_s))
    all_goals (go_wp2; go_meet)
    all_goals (case rel => exact ⟨rfl, rfl, Lib.hid (by assumption)⟩)
  case rest =>
    obtain ⟨rfl, rfl, t⟩ := hcut
    have hS0 := t.out
    clear t
    have h_a := K_a.out _ hS0
    have h_b := K_b.out _ hS0
    have h_ra := KR_a.out _ hS0
    have h_rb := KR_b.out _ hS0
    have HTab := Lib.hid (KT.out _ hS0)
    have bw := KF.out _ hS0
    clear hS0 KA KS KU KT KF K_a K_b KR_a KR_b d_a0 d_a1 d_b0 d_b1
    go_wp2_with fail
    generalize wc = wS at *
    have KA : RowKit.Hid (∀ wx, Below wS.heap.size wS wx → (wx.cell? ⟨q_a, 0, none⟩ = some (.bool g_a) ∧ wx.cell? ⟨q_a, 1, none⟩ = some (.slice A_a n_a c_a) ∧ wx.cell? ⟨q_b, 0, none⟩ = some (.bool g_b) ∧ wx.cell? ⟨q_b, 1, none⟩ = some (.slice A_b n_b c_b) ∧ Below wS.heap.size wS wx)) := fun wx hb => ⟨(h_ra.below hb).c0, (h_ra.below hb).c1, (h_rb.below hb).c0, (h_rb.below hb).c1, hb⟩
    have KS : RowKit.Hid (∀ wx w2, (wx.cell? ⟨q_a, 0, none⟩ = some (.bool g_a) ∧ wx.cell? ⟨q_a, 1, none⟩ = some (.slice A_a n_a c_a) ∧ wx.cell? ⟨q_b, 0, none⟩ = some (.bool g_b) ∧ wx.cell? ⟨q_b, 1, none⟩ = some (.slice A_b n_b c_b) ∧ Below wS.heap.size wS wx) → Below wx.heap.size wx w2 → (w2.cell? ⟨q_a, 0, none⟩ = some (.bool g_a) ∧ w2.cell? ⟨q_a, 1, none⟩ = some (.slice A_a n_a c_a) ∧ w2.cell? ⟨q_b, 0, none⟩ = some (.bool g_b) ∧ w2.cell? ⟨q_b, 1, none⟩ = some (.slice A_b n_b c_b) ∧ Below wS.heap.size wS w2)) := fun wx w2 hS bn => KA.out _ (below_two hS.2.2.2.2 bn)
    have KU : RowKit.Hid (∀ (wx : World) (q : Nat) (u v : Value), (wx.cell? ⟨q_a, 0, none⟩ = some (.bool g_a) ∧ wx.cell? ⟨q_a, 1, none⟩ = some (.slice A_a n_a c_a) ∧ wx.cell? ⟨q_b, 0, none⟩ = some (.bool g_b) ∧ wx.cell? ⟨q_b, 1, none⟩ = some (.slice A_b n_b c_b) ∧ Below wS.heap.size wS wx) → wS.heap.size ≤ q → (((wx.setCell ⟨q, 0, none⟩ u).setCell ⟨q, 1, none⟩ v).cell? ⟨q_a, 0, none⟩ = some (.bool g_a) ∧ ((wx.setCell ⟨q, 0, none⟩ u).setCell ⟨q, 1, none⟩ v).cell? ⟨q_a, 1, none⟩ = some (.slice A_a n_a c_a) ∧ ((wx.setCell ⟨q, 0, none⟩ u).setCell ⟨q, 1, none⟩ v).cell? ⟨q_b, 0, none⟩ = some (.bool g_b) ∧ ((wx.setCell ⟨q, 0, none⟩ u).setCell ⟨q, 1, none⟩ v).cell? ⟨q_b, 1, none⟩ = some (.slice A_b n_b c_b) ∧ Below wS.heap.size wS ((wx.setCell ⟨q, 0, none⟩ u).setCell ⟨q, 1, none⟩ v))) := fun wx q u v hS hq => KA.out _ ((hS.2.2.2.2.setCell (p := ⟨q, 0, none⟩) hq u).setCell (p := ⟨q, 1, none⟩) hq v)
    have K_a : RowKit.Hid (∀ wx, (wx.cell? ⟨q_a, 0, none⟩ = some (.bool g_a) ∧ wx.cell? ⟨q_a, 1, none⟩ = some (.slice A_a n_a c_a) ∧ wx.cell? ⟨q_b, 0, none⟩ = some (.bool g_b) ∧ wx.cell? ⟨q_b, 1, none⟩ = some (.slice A_b n_b c_b) ∧ Below wS.heap.size wS wx) → ZZ wx g_a A_a n_a c_a xs_a z_a 60) := fun wx hS => h_a.below hS.2.2.2.2
    have K_b : RowKit.Hid (∀ wx, (wx.cell? ⟨q_a, 0, none⟩ = some (.bool g_a) ∧ wx.cell? ⟨q_a, 1, none⟩ = some (.slice A_a n_a c_a) ∧ wx.cell? ⟨q_b, 0, none⟩ = some (.bool g_b) ∧ wx.cell? ⟨q_b, 1, none⟩ = some (.slice A_b n_b c_b) ∧ Below wS.heap.size wS wx) → ZZ wx g_b A_b n_b c_b xs_b z_b 60) := fun wx hS => h_b.below hS.2.2.2.2
    have KR_a : RowKit.Hid (∀ wx, (wx.cell? ⟨q_a, 0, none⟩ = some (.bool g_a) ∧ wx.cell? ⟨q_a, 1, none⟩ = some (.slice A_a n_a c_a) ∧ wx.cell? ⟨q_b, 0, none⟩ = some (.bool g_b) ∧ wx.cell? ⟨q_b, 1, none⟩ = some (.slice A_b n_b c_b) ∧ Below wS.heap.size wS wx) → Row2 wx q_a 25 (.bool g_a) (.slice A_a n_a c_a)) := fun wx hS => h_ra.below hS.2.2.2.2
    have KR_b : RowKit.Hid (∀ wx, (wx.cell? ⟨q_a, 0, none⟩ = some (.bool g_a) ∧ wx.cell? ⟨q_a, 1, none⟩ = some (.slice A_a n_a c_a) ∧ wx.cell? ⟨q_b, 0, none⟩ = some (.bool g_b) ∧ wx.cell? ⟨q_b, 1, none⟩ = some (.slice A_b n_b c_b) ∧ Below wS.heap.size wS wx) → Row2 wx q_b 25 (.bool g_b) (.slice A_b n_b c_b)) := fun wx hS => h_rb.below hS.2.2.2.2
    have KT : RowKit.Hid (∀ wx, (wx.cell? ⟨q_a, 0, none⟩ = some (.bool g_a) ∧ wx.cell? ⟨q_a, 1, none⟩ = some (.slice A_a n_a c_a) ∧ wx.cell? ⟨q_b, 0, none⟩ = some (.bool g_b) ∧ wx.cell? ⟨q_b, 1, none⟩ = some (.slice A_b n_b c_b) ∧ Below wS.heap.size wS wx) → Tab wx) := fun wx hS => HTab.out.below hS.2.2.2.2
    have HF := Lib.hid bw
    have KF : RowKit.Hid (∀ wx, (wx.cell? ⟨q_a, 0, none⟩ = some (.bool g_a) ∧ wx.cell? ⟨q_a, 1, none⟩ = some (.slice A_a n_a c_a) ∧ wx.cell? ⟨q_b, 0, none⟩ = some (.bool g_b) ∧ wx.cell? ⟨q_b, 1, none⟩ = some (.slice A_b n_b c_b) ∧ Below wS.heap.size wS wx) → Below w.heap.size w wx) := fun wx hS => below_two HF.out hS.2.2.2.2
    obtain ⟨d_a0, d_a1, d_b0, d_b1, _⟩ := KA.out _ (Below.refl _ _)
    clear h_a h_b h_ra h_rb HTab bw
    clear HF
    go_cut [42] from 20 to 41 (fun s0 wx => s0 = .bool false ∧ RowKit.Hid (wx.cell? ⟨q_a, 0, none⟩ = some (.bool g_a) ∧ wx.cell? ⟨q_a, 1, none⟩ = some (.slice A_a n_a c_a) ∧ wx.cell? ⟨q_b, 0, none⟩ = some (.bool g_b) ∧ wx.cell? ⟨q_b, 1, none⟩ = some (.slice A_b n_b c_b) ∧ Below wS.heap.size wS wx))
    case first =>
      try dsimp only [List.append]
      go_region_held3 (fun wx => wx.cell? ⟨q_a, 0, none⟩ = some (.bool g_a) ∧ wx.cell? ⟨q_a, 1, none⟩ = some (.slice A_a n_a c_a) ∧ wx.cell? ⟨q_b, 0, none⟩ = some (.bool g_b) ∧ wx.cell? ⟨q_b, 1, none⟩ = some (.slice A_b n_b c_b) ∧ Below wS.heap.size wS wx) (first | assumption | exact KA.out _ ((Below.refl _ _).drew) | (with_reducible refine KS.out _ _ ?_ (below_new _ _); assumption)) (first
        | (go_at_call 14; (have mk := bn_z; clear mk); (with_reducible refine (wCmp_c (K_a.out _ (by assumption)) h_z (by decide) (by decide) (-1) H2.out).mono ?_); rintro e w2 ⟨rfl, bn_c2⟩; have hS2 := KS.out _ _ (by assumption) bn_c2)
        | (go_at_call 11; (have mk := bn_c; clear mk); (with_reducible refine (wOf_c (0) (by decide) (by decide) _).mono ?_); rintro e w2 ⟨A_z, n_z, c_z, rfl, h_z, bn_z⟩; have hS2 := KS.out _ _ (by assumption) bn_z)
        | (go_at_call 14; (with_reducible refine (wCmp_c (K_a.out _ (by assumption)) (K_b.out _ (by assumption)) (by decide) (by decide) v hv.out).mono ?_); rintro e w2 ⟨rfl, bn_c⟩; have hS2 := KS.out _ _ (by assumption) bn_c))
      all_goals (go_wp2; go_meet)
      all_goals (case rel => exact ⟨rfl, Lib.hid (by assumption)⟩)
    case rest =>
      obtain ⟨rfl, t⟩ := hcut
      have hS0 := t.out
      clear t
      have h_a := K_a.out _ hS0
      have h_b := K_b.out _ hS0
      have h_ra := KR_a.out _ hS0
      have h_rb := KR_b.out _ hS0
      have HTab := Lib.hid (KT.out _ hS0)
      have bw := KF.out _ hS0
      clear hS0 KA KS KU KT KF K_a K_b KR_a KR_b d_a0 d_a1 d_b0 d_b1
      go_wp2_with fail
      refine (wParse_c M _ HTab.out false HOk.out 0 HZv.out).mono ?_
      rintro e w3 ⟨A_n, n_n, c_n, rfl, h_n, bn⟩
      replace h_a := h_a.below bn
      replace h_b := h_b.below bn
      replace h_ra := h_ra.below bn
      replace h_rb := h_rb.below bn
      replace HTab := Lib.hid (HTab.out.below bn)
      replace bw := below_two bw bn
      clear bn
      go_wp2_with fail
      have h_rn := row2_new w3 25 (.bool (sg 0)) (.slice A_n n_n c_n)
      have bn := below_new w3 (.cells #[Value.bool (sg 0), Value.slice A_n n_n c_n] 25)
      replace h_a := h_a.below bn
      replace h_b := h_b.below bn
      replace h_ra := h_ra.below bn
      replace h_rb := h_rb.below bn
      replace h_n := h_n.below bn
      replace HTab := Lib.hid (HTab.out.below bn)
      replace bw := below_two bw bn
      clear bn
      generalize w3.alloc (.cells #[Value.bool (sg 0), Value.slice A_n n_n c_n] 25) = w4 at *
      obtain ⟨q_n, eg⟩ : ∃ g, g = w3.heap.size := ⟨_, rfl⟩
      rw [← eg] at h_rn ⊢
      clear eg
      generalize w4 = wS at *
      have HA := Lib.hid h_a
      have HR := Lib.hid h_ra
      have HB := Lib.hid bw
      have d0 := h_ra.c0
      have d1 := h_ra.c1
      clear bw h_a h_b h_ra h_rb h_n h_rn
      go_region_with (first
        | (go_at_call 11; (with_reducible refine (wOf_c (0) (by decide) (by decide) _).mono ?_); rintro e w2 ⟨A_z, n_z, c_z, rfl, h_z, bn⟩; have b2 : Below wS.heap.size wS w2 := (by first | exact bn | exact below_two (Below.refl _ _).drew bn); have e0 := (HR.out.below b2).c0; have e1 := (HR.out.below b2).c1)
        | (go_at_call 14; (with_reducible refine (wCmp_c (HA.out.below b2) h_z (by decide) (by decide) (-1) H2.out).mono ?_); rintro e w3 ⟨rfl, bm⟩; have b3 := below_two b2 bm)
        | (go_at_call 7; (with_reducible refine (wakes_any _ (HTab.out.below b3)).mono ?_); rintro e w4 ⟨rfl, bk⟩; have b4 := below_two b3 bk))
      all_goals (go_wp2; go_ret; exact ⟨rfl, below_two HB.out b4⟩)

end Go.Proofs.YtgdchljbjnhchaaDoor.lawWholeTexts

/- The walk of WholeTexts where the first number is  0. Condition: at most 60 limbs. -/
namespace Go.Proofs.YtgdchljbjnhchaaDoor.lawWholeTexts
open Go.ChangeShapes Go.WideShapes Go.ChangeAt Go.RowKit Limb
set_option linter.unusedVariables false

set_option maxHeartbeats 40000000 in
set_option maxRecDepth 100000 in
theorem textsZ (g_a : Bool) (A_a : Option Addr) (n_a c_a : Nat) (xs_a : List Nat) (g_b : Bool) (A_b : Option Addr) (n_b c_b : Nat) (xs_b : List Nat) (w : World) (i_a : IsN w A_a n_a xs_a) (hc_a : n_a ≤ c_a) (hm_a : c_a ≤ maxLen) (i_b : IsN w A_b n_b xs_b) (hc_b : n_b ≤ c_b) (hm_b : c_b ≤ maxLen) (T : Tab w) (l_a : n_a ≤ 60) (l_b : n_b ≤ 60) (hsg : zOf g_a (Limb.val xs_a) = 0) :
    Calls Tryd.prog 6 #[.agg #[.bool g_a, .slice A_a n_a c_a], .agg #[.bool g_b, .slice A_b n_b c_b]] w fun e w' => e = .returned (.bool true) ∧ Below w.heap.size w w' := by
  have HTab := Lib.hid T
  clear T
  have bw := bel_refl w
  have T_a : RowKit.Hid (decide (60 < n_a) = false) := by show _ = _; simp; omega
  have T_b : RowKit.Hid (decide (60 < n_b) = false) := by show _ = _; simp; omega
  have h_a : ZZ w g_a A_a n_a c_a xs_a (zOf g_a (Limb.val xs_a)) 60 := ZZ.of ⟨i_a, rfl, hc_a, by omega⟩
  generalize zOf g_a (Limb.val xs_a) = z_a at h_a hsg
  have h_b : ZZ w g_b A_b n_b c_b xs_b (zOf g_b (Limb.val xs_b)) 60 := ZZ.of ⟨i_b, rfl, hc_b, by omega⟩
  generalize zOf g_b (Limb.val xs_b) = z_b at h_b
  have h_ra := row2_new w 25 (.bool g_a) (.slice A_a n_a c_a)
  have bn := below_new w (.cells #[Value.bool g_a, Value.slice A_a n_a c_a] 25)
  replace h_a := h_a.below bn
  replace h_b := h_b.below bn
  replace HTab := Lib.hid (HTab.out.below bn)
  replace bw := below_two bw bn
  clear bn
  have h_rb := row2_new (w.alloc (.cells #[Value.bool g_a, Value.slice A_a n_a c_a] 25)) 25 (.bool g_b) (.slice A_b n_b c_b)
  have bn := below_new (w.alloc (.cells #[Value.bool g_a, Value.slice A_a n_a c_a] 25)) (.cells #[Value.bool g_b, Value.slice A_b n_b c_b] 25)
  replace h_a := h_a.below bn
  replace h_b := h_b.below bn
  replace h_ra := h_ra.below bn
  replace HTab := Lib.hid (HTab.out.below bn)
  replace bw := below_two bw bn
  clear bn
  simp only [World.size_alloc] at h_ra h_rb
  have hl : (decT z_a.natAbs).length ≤ 601 := Nat.le_trans (decT_len_limbs (lt_pow h_a.nn)) (by decide)
  obtain ⟨e, he⟩ : ∃ e, decide (z_a = z_b) = e := ⟨_, rfl⟩
  have hb := zT_beq z_a z_b
  have hve := cmpZ_zero z_a z_b
  rw [he] at hb hve
  have hf := zT_len z_a
  have hbyte : lim (zT z_a) 0 ≠ 45 := zT_first_pos (by omega)
  obtain ⟨S, hS⟩ : ∃ S, strOf (zT z_a) = S := ⟨_, rfl⟩
  obtain ⟨U, hU⟩ : ∃ U, strOf (zT z_b) = U := ⟨_, rfl⟩
  rw [hS, hU] at hb
  have hSs : S.size = (zT z_a).length := by rw [← hS, size_strOf]
  have h0S : 0 < S.size := by omega
  have hS1 : S.size ≤ 1000 := by omega
  have h00 : ((S.size : Int) == 0) = false := by rw [beq_eq_false_iff_ne]; omega
  obtain ⟨d, hd⟩ : ∃ d, (S[0]'h0S).toNat = d := ⟨_, rfl⟩
  have hdl : d = lim (zT z_a) 0 := by rw [← hd, byte_at S 0 h0S, ← hS, bytesOf_strOf (zT_bytes z_a)]
  have hd45 : ((d : Int) == 45) = false := by rw [beq_eq_false_iff_ne]; rw [← hdl] at hbyte; omega
  obtain ⟨M, hM⟩ : ∃ M, (⟨#[45]⟩ : ByteArray) ++ S = M := ⟨_, rfl⟩
  have hMb := minus_bytes hS hM
  obtain ⟨v, hv⟩ : ∃ v, cmpZ z_a z_b = v := ⟨_, rfl⟩
  rw [hv] at hve
  have H2 : RowKit.Hid (cmpZ z_a 0 = 0) := cmpZ_eq hsg
  have HOk : RowKit.Hid (zOk (bytesOf M) = false) := by
    show _ = _
    rw [hMb]; rw [hsg]; exact minus_zero
  have HZv : RowKit.Hid (zV (bytesOf M) = 0) := zV_no HOk.out
  have hS := Lib.hid hS
  have hU := Lib.hid hU
  have hv := Lib.hid hv
  clear he hf hbyte hSs hdl hMb hl hsg
  go_enter Tryd.func6, Tryd.ntmps6
  go_wp2_with fail
  generalize ((w.alloc (.cells #[Value.bool g_a, Value.slice A_a n_a c_a] 25)).alloc (.cells #[Value.bool g_b, Value.slice A_b n_b c_b] 25)) = wP at *
  obtain ⟨q_b, eg⟩ : ∃ g, g = w.heap.size + 1 := ⟨_, rfl⟩
  rw [← eg] at h_rb ⊢
  have E_b := Lib.hid eg
  clear eg
  obtain ⟨q_a, eg⟩ : ∃ g, g = w.heap.size := ⟨_, rfl⟩
  rw [← eg] at h_ra ⊢
  have E_a := Lib.hid eg
  clear eg
  refine (long_c g_a A_a n_a c_a false T_a.out _).mono ?_
  rintro e w1 ⟨rfl, bn⟩
  replace h_a := h_a.below bn
  replace h_b := h_b.below bn
  replace h_ra := h_ra.below bn
  replace h_rb := h_rb.below bn
  replace HTab := Lib.hid (HTab.out.below bn)
  replace bw := below_two bw bn
  clear bn
  have d_a0 := h_ra.c0
  have d_a1 := h_ra.c1
  have d_b0 := h_rb.c0
  have d_b1 := h_rb.c1
  go_wp2_with fail
  clear d_a0 d_a1 d_b0 d_b1
  refine (long_c g_b A_b n_b c_b false T_b.out _).mono ?_
  rintro e w2 ⟨rfl, bn⟩
  replace h_a := h_a.below bn
  replace h_b := h_b.below bn
  replace h_ra := h_ra.below bn
  replace h_rb := h_rb.below bn
  replace HTab := Lib.hid (HTab.out.below bn)
  replace bw := below_two bw bn
  clear bn
  have d_a0 := h_ra.c0
  have d_a1 := h_ra.c1
  have d_b0 := h_rb.c0
  have d_b1 := h_rb.c1
  go_wp2_with fail
  clear d_a0 d_a1 d_b0 d_b1
  generalize w2 = wS at *
  have KA : RowKit.Hid (∀ wx, Below wS.heap.size wS wx → (wx.cell? ⟨q_a, 0, none⟩ = some (.bool g_a) ∧ wx.cell? ⟨q_a, 1, none⟩ = some (.slice A_a n_a c_a) ∧ wx.cell? ⟨q_b, 0, none⟩ = some (.bool g_b) ∧ wx.cell? ⟨q_b, 1, none⟩ = some (.slice A_b n_b c_b) ∧ Below wS.heap.size wS wx)) := fun wx hb => ⟨(h_ra.below hb).c0, (h_ra.below hb).c1, (h_rb.below hb).c0, (h_rb.below hb).c1, hb⟩
  have KS : RowKit.Hid (∀ wx w2, (wx.cell? ⟨q_a, 0, none⟩ = some (.bool g_a) ∧ wx.cell? ⟨q_a, 1, none⟩ = some (.slice A_a n_a c_a) ∧ wx.cell? ⟨q_b, 0, none⟩ = some (.bool g_b) ∧ wx.cell? ⟨q_b, 1, none⟩ = some (.slice A_b n_b c_b) ∧ Below wS.heap.size wS wx) → Below wx.heap.size wx w2 → (w2.cell? ⟨q_a, 0, none⟩ = some (.bool g_a) ∧ w2.cell? ⟨q_a, 1, none⟩ = some (.slice A_a n_a c_a) ∧ w2.cell? ⟨q_b, 0, none⟩ = some (.bool g_b) ∧ w2.cell? ⟨q_b, 1, none⟩ = some (.slice A_b n_b c_b) ∧ Below wS.heap.size wS w2)) := fun wx w2 hS bn => KA.out _ (below_two hS.2.2.2.2 bn)
  have KU : RowKit.Hid (∀ (wx : World) (q : Nat) (u v : Value), (wx.cell? ⟨q_a, 0, none⟩ = some (.bool g_a) ∧ wx.cell? ⟨q_a, 1, none⟩ = some (.slice A_a n_a c_a) ∧ wx.cell? ⟨q_b, 0, none⟩ = some (.bool g_b) ∧ wx.cell? ⟨q_b, 1, none⟩ = some (.slice A_b n_b c_b) ∧ Below wS.heap.size wS wx) → wS.heap.size ≤ q → (((wx.setCell ⟨q, 0, none⟩ u).setCell ⟨q, 1, none⟩ v).cell? ⟨q_a, 0, none⟩ = some (.bool g_a) ∧ ((wx.setCell ⟨q, 0, none⟩ u).setCell ⟨q, 1, none⟩ v).cell? ⟨q_a, 1, none⟩ = some (.slice A_a n_a c_a) ∧ ((wx.setCell ⟨q, 0, none⟩ u).setCell ⟨q, 1, none⟩ v).cell? ⟨q_b, 0, none⟩ = some (.bool g_b) ∧ ((wx.setCell ⟨q, 0, none⟩ u).setCell ⟨q, 1, none⟩ v).cell? ⟨q_b, 1, none⟩ = some (.slice A_b n_b c_b) ∧ Below wS.heap.size wS ((wx.setCell ⟨q, 0, none⟩ u).setCell ⟨q, 1, none⟩ v))) := fun wx q u v hS hq => KA.out _ ((hS.2.2.2.2.setCell (p := ⟨q, 0, none⟩) hq u).setCell (p := ⟨q, 1, none⟩) hq v)
  have K_a : RowKit.Hid (∀ wx, (wx.cell? ⟨q_a, 0, none⟩ = some (.bool g_a) ∧ wx.cell? ⟨q_a, 1, none⟩ = some (.slice A_a n_a c_a) ∧ wx.cell? ⟨q_b, 0, none⟩ = some (.bool g_b) ∧ wx.cell? ⟨q_b, 1, none⟩ = some (.slice A_b n_b c_b) ∧ Below wS.heap.size wS wx) → ZZ wx g_a A_a n_a c_a xs_a z_a 60) := fun wx hS => h_a.below hS.2.2.2.2
  have K_b : RowKit.Hid (∀ wx, (wx.cell? ⟨q_a, 0, none⟩ = some (.bool g_a) ∧ wx.cell? ⟨q_a, 1, none⟩ = some (.slice A_a n_a c_a) ∧ wx.cell? ⟨q_b, 0, none⟩ = some (.bool g_b) ∧ wx.cell? ⟨q_b, 1, none⟩ = some (.slice A_b n_b c_b) ∧ Below wS.heap.size wS wx) → ZZ wx g_b A_b n_b c_b xs_b z_b 60) := fun wx hS => h_b.below hS.2.2.2.2
  have KR_a : RowKit.Hid (∀ wx, (wx.cell? ⟨q_a, 0, none⟩ = some (.bool g_a) ∧ wx.cell? ⟨q_a, 1, none⟩ = some (.slice A_a n_a c_a) ∧ wx.cell? ⟨q_b, 0, none⟩ = some (.bool g_b) ∧ wx.cell? ⟨q_b, 1, none⟩ = some (.slice A_b n_b c_b) ∧ Below wS.heap.size wS wx) → Row2 wx q_a 25 (.bool g_a) (.slice A_a n_a c_a)) := fun wx hS => h_ra.below hS.2.2.2.2
  have KR_b : RowKit.Hid (∀ wx, (wx.cell? ⟨q_a, 0, none⟩ = some (.bool g_a) ∧ wx.cell? ⟨q_a, 1, none⟩ = some (.slice A_a n_a c_a) ∧ wx.cell? ⟨q_b, 0, none⟩ = some (.bool g_b) ∧ wx.cell? ⟨q_b, 1, none⟩ = some (.slice A_b n_b c_b) ∧ Below wS.heap.size wS wx) → Row2 wx q_b 25 (.bool g_b) (.slice A_b n_b c_b)) := fun wx hS => h_rb.below hS.2.2.2.2
  have KT : RowKit.Hid (∀ wx, (wx.cell? ⟨q_a, 0, none⟩ = some (.bool g_a) ∧ wx.cell? ⟨q_a, 1, none⟩ = some (.slice A_a n_a c_a) ∧ wx.cell? ⟨q_b, 0, none⟩ = some (.bool g_b) ∧ wx.cell? ⟨q_b, 1, none⟩ = some (.slice A_b n_b c_b) ∧ Below wS.heap.size wS wx) → Tab wx) := fun wx hS => HTab.out.below hS.2.2.2.2
  have HF := Lib.hid bw
  have KF : RowKit.Hid (∀ wx, (wx.cell? ⟨q_a, 0, none⟩ = some (.bool g_a) ∧ wx.cell? ⟨q_a, 1, none⟩ = some (.slice A_a n_a c_a) ∧ wx.cell? ⟨q_b, 0, none⟩ = some (.bool g_b) ∧ wx.cell? ⟨q_b, 1, none⟩ = some (.slice A_b n_b c_b) ∧ Below wS.heap.size wS wx) → Below w.heap.size w wx) := fun wx hS => below_two HF.out hS.2.2.2.2
  obtain ⟨d_a0, d_a1, d_b0, d_b1, _⟩ := KA.out _ (Below.refl _ _)
  clear h_a h_b h_ra h_rb HTab bw
  clear HF
  go_cut [5, 6] from 16 to 19 (fun s5 s6 wx => s5 = .string S ∧ s6 = .string U ∧ RowKit.Hid (wx.cell? ⟨q_a, 0, none⟩ = some (.bool g_a) ∧ wx.cell? ⟨q_a, 1, none⟩ = some (.slice A_a n_a c_a) ∧ wx.cell? ⟨q_b, 0, none⟩ = some (.bool g_b) ∧ wx.cell? ⟨q_b, 1, none⟩ = some (.slice A_b n_b c_b) ∧ Below wS.heap.size wS wx))
  case first =>
    try dsimp only [List.append]
    go_region_held3 (fun wx => wx.cell? ⟨q_a, 0, none⟩ = some (.bool g_a) ∧ wx.cell? ⟨q_a, 1, none⟩ = some (.slice A_a n_a c_a) ∧ wx.cell? ⟨q_b, 0, none⟩ = some (.bool g_b) ∧ wx.cell? ⟨q_b, 1, none⟩ = some (.slice A_b n_b c_b) ∧ Below wS.heap.size wS wx) (first | assumption | exact KA.out _ ((Below.refl _ _).drew) | (with_reducible refine KS.out _ _ ?_ (below_new _ _); assumption)) (first
      | (go_at_call 16; (have mk := bn_s; clear mk); (with_reducible refine (wText_c (KT.out _ (by assumption)) (K_b.out _ (by assumption)) (by decide) U hU.out).mono ?_); rintro e w2 ⟨rfl, bn_t⟩; have hS2 := KS.out _ _ (by assumption) bn_t)
      | (go_at_call 16; (with_reducible refine (wText_c (KT.out _ (by assumption)) (K_a.out _ (by assumption)) (by decide) S hS.out).mono ?_); rintro e w2 ⟨rfl, bn_s⟩; have hS2 := KS.out _ _ (by assumption) bn_s))
    all_goals (go_wp2; go_meet)
    all_goals (case rel => exact ⟨rfl, rfl, Lib.hid (by assumption)⟩)
  case rest =>
    obtain ⟨rfl, rfl, t⟩ := hcut
    have hS0 := t.out
    clear t
    have h_a := K_a.out _ hS0
    have h_b := K_b.out _ hS0
    have h_ra := KR_a.out _ hS0
    have h_rb := KR_b.out _ hS0
    have HTab := Lib.hid (KT.out _ hS0)
    have bw := KF.out _ hS0
    clear hS0 KA KS KU KT KF K_a K_b KR_a KR_b d_a0 d_a1 d_b0 d_b1
    go_wp2_with fail
    generalize wc = wS at *
    have KA : RowKit.Hid (∀ wx, Below wS.heap.size wS wx → (wx.cell? ⟨q_a, 0, none⟩ = some (.bool g_a) ∧ wx.cell? ⟨q_a, 1, none⟩ = some (.slice A_a n_a c_a) ∧ wx.cell? ⟨q_b, 0, none⟩ = some (.bool g_b) ∧ wx.cell? ⟨q_b, 1, none⟩ = some (.slice A_b n_b c_b) ∧ Below wS.heap.size wS wx)) := fun wx hb => ⟨(h_ra.below hb).c0, (h_ra.below hb).c1, (h_rb.below hb).c0, (h_rb.below hb).c1, hb⟩
    have KS : RowKit.Hid (∀ wx w2, (wx.cell? ⟨q_a, 0, none⟩ = some (.bool g_a) ∧ wx.cell? ⟨q_a, 1, none⟩ = some (.slice A_a n_a c_a) ∧ wx.cell? ⟨q_b, 0, none⟩ = some (.bool g_b) ∧ wx.cell? ⟨q_b, 1, none⟩ = some (.slice A_b n_b c_b) ∧ Below wS.heap.size wS wx) → Below wx.heap.size wx w2 → (w2.cell? ⟨q_a, 0, none⟩ = some (.bool g_a) ∧ w2.cell? ⟨q_a, 1, none⟩ = some (.slice A_a n_a c_a) ∧ w2.cell? ⟨q_b, 0, none⟩ = some (.bool g_b) ∧ w2.cell? ⟨q_b, 1, none⟩ = some (.slice A_b n_b c_b) ∧ Below wS.heap.size wS w2)) := fun wx w2 hS bn => KA.out _ (below_two hS.2.2.2.2 bn)
    have KU : RowKit.Hid (∀ (wx : World) (q : Nat) (u v : Value), (wx.cell? ⟨q_a, 0, none⟩ = some (.bool g_a) ∧ wx.cell? ⟨q_a, 1, none⟩ = some (.slice A_a n_a c_a) ∧ wx.cell? ⟨q_b, 0, none⟩ = some (.bool g_b) ∧ wx.cell? ⟨q_b, 1, none⟩ = some (.slice A_b n_b c_b) ∧ Below wS.heap.size wS wx) → wS.heap.size ≤ q → (((wx.setCell ⟨q, 0, none⟩ u).setCell ⟨q, 1, none⟩ v).cell? ⟨q_a, 0, none⟩ = some (.bool g_a) ∧ ((wx.setCell ⟨q, 0, none⟩ u).setCell ⟨q, 1, none⟩ v).cell? ⟨q_a, 1, none⟩ = some (.slice A_a n_a c_a) ∧ ((wx.setCell ⟨q, 0, none⟩ u).setCell ⟨q, 1, none⟩ v).cell? ⟨q_b, 0, none⟩ = some (.bool g_b) ∧ ((wx.setCell ⟨q, 0, none⟩ u).setCell ⟨q, 1, none⟩ v).cell? ⟨q_b, 1, none⟩ = some (.slice A_b n_b c_b) ∧ Below wS.heap.size wS ((wx.setCell ⟨q, 0, none⟩ u).setCell ⟨q, 1, none⟩ v))) := fun wx q u v hS hq => KA.out _ ((hS.2.2.2.2.setCell (p := ⟨q, 0, none⟩) hq u).setCell (p := ⟨q, 1, none⟩) hq v)
    have K_a : RowKit.Hid (∀ wx, (wx.cell? ⟨q_a, 0, none⟩ = some (.bool g_a) ∧ wx.cell? ⟨q_a, 1, none⟩ = some (.slice A_a n_a c_a) ∧ wx.cell? ⟨q_b, 0, none⟩ = some (.bool g_b) ∧ wx.cell? ⟨q_b, 1, none⟩ = some (.slice A_b n_b c_b) ∧ Below wS.heap.size wS wx) → ZZ wx g_a A_a n_a c_a xs_a z_a 60) := fun wx hS => h_a.below hS.2.2.2.2
    have K_b : RowKit.Hid (∀ wx, (wx.cell? ⟨q_a, 0, none⟩ = some (.bool g_a) ∧ wx.cell? ⟨q_a, 1, none⟩ = some (.slice A_a n_a c_a) ∧ wx.cell? ⟨q_b, 0, none⟩ = some (.bool g_b) ∧ wx.cell? ⟨q_b, 1, none⟩ = some (.slice A_b n_b c_b) ∧ Below wS.heap.size wS wx) → ZZ wx g_b A_b n_b c_b xs_b z_b 60) := fun wx hS => h_b.below hS.2.2.2.2
    have KR_a : RowKit.Hid (∀ wx, (wx.cell? ⟨q_a, 0, none⟩ = some (.bool g_a) ∧ wx.cell? ⟨q_a, 1, none⟩ = some (.slice A_a n_a c_a) ∧ wx.cell? ⟨q_b, 0, none⟩ = some (.bool g_b) ∧ wx.cell? ⟨q_b, 1, none⟩ = some (.slice A_b n_b c_b) ∧ Below wS.heap.size wS wx) → Row2 wx q_a 25 (.bool g_a) (.slice A_a n_a c_a)) := fun wx hS => h_ra.below hS.2.2.2.2
    have KR_b : RowKit.Hid (∀ wx, (wx.cell? ⟨q_a, 0, none⟩ = some (.bool g_a) ∧ wx.cell? ⟨q_a, 1, none⟩ = some (.slice A_a n_a c_a) ∧ wx.cell? ⟨q_b, 0, none⟩ = some (.bool g_b) ∧ wx.cell? ⟨q_b, 1, none⟩ = some (.slice A_b n_b c_b) ∧ Below wS.heap.size wS wx) → Row2 wx q_b 25 (.bool g_b) (.slice A_b n_b c_b)) := fun wx hS => h_rb.below hS.2.2.2.2
    have KT : RowKit.Hid (∀ wx, (wx.cell? ⟨q_a, 0, none⟩ = some (.bool g_a) ∧ wx.cell? ⟨q_a, 1, none⟩ = some (.slice A_a n_a c_a) ∧ wx.cell? ⟨q_b, 0, none⟩ = some (.bool g_b) ∧ wx.cell? ⟨q_b, 1, none⟩ = some (.slice A_b n_b c_b) ∧ Below wS.heap.size wS wx) → Tab wx) := fun wx hS => HTab.out.below hS.2.2.2.2
    have HF := Lib.hid bw
    have KF : RowKit.Hid (∀ wx, (wx.cell? ⟨q_a, 0, none⟩ = some (.bool g_a) ∧ wx.cell? ⟨q_a, 1, none⟩ = some (.slice A_a n_a c_a) ∧ wx.cell? ⟨q_b, 0, none⟩ = some (.bool g_b) ∧ wx.cell? ⟨q_b, 1, none⟩ = some (.slice A_b n_b c_b) ∧ Below wS.heap.size wS wx) → Below w.heap.size w wx) := fun wx hS => below_two HF.out hS.2.2.2.2
    obtain ⟨d_a0, d_a1, d_b0, d_b1, _⟩ := KA.out _ (Below.refl _ _)
    clear h_a h_b h_ra h_rb HTab bw
    clear HF
    go_cut [42] from 20 to 41 (fun s0 wx => s0 = .bool false ∧ RowKit.Hid (wx.cell? ⟨q_a, 0, none⟩ = some (.bool g_a) ∧ wx.cell? ⟨q_a, 1, none⟩ = some (.slice A_a n_a c_a) ∧ wx.cell? ⟨q_b, 0, none⟩ = some (.bool g_b) ∧ wx.cell? ⟨q_b, 1, none⟩ = some (.slice A_b n_b c_b) ∧ Below wS.heap.size wS wx))
    case first =>
      try dsimp only [List.append]
      go_region_held3 (fun wx => wx.cell? ⟨q_a, 0, none⟩ = some (.bool g_a) ∧ wx.cell? ⟨q_a, 1, none⟩ = some (.slice A_a n_a c_a) ∧ wx.cell? ⟨q_b, 0, none⟩ = some (.bool g_b) ∧ wx.cell? ⟨q_b, 1, none⟩ = some (.slice A_b n_b c_b) ∧ Below wS.heap.size wS wx) (first | assumption | exact KA.out _ ((Below.refl _ _).drew) | (with_reducible refine KS.out _ _ ?_ (below_new _ _); assumption)) (first
        | (go_at_call 14; (have mk := bn_z; clear mk); (with_reducible refine (wCmp_c (K_a.out _ (by assumption)) h_z (by decide) (by decide) 0 H2.out).mono ?_); rintro e w2 ⟨rfl, bn_c2⟩; have hS2 := KS.out _ _ (by assumption) bn_c2)
        | (go_at_call 11; (have mk := bn_c; clear mk); (with_reducible refine (wOf_c (0) (by decide) (by decide) _).mono ?_); rintro e w2 ⟨A_z, n_z, c_z, rfl, h_z, bn_z⟩; have hS2 := KS.out _ _ (by assumption) bn_z)
        | (go_at_call 14; (with_reducible refine (wCmp_c (K_a.out _ (by assumption)) (K_b.out _ (by assumption)) (by decide) (by decide) v hv.out).mono ?_); rintro e w2 ⟨rfl, bn_c⟩; have hS2 := KS.out _ _ (by assumption) bn_c))
      all_goals (go_wp2; go_meet)
      all_goals (case rel => exact ⟨rfl, Lib.hid (by assumption)⟩)
    case rest =>
      obtain ⟨rfl, t⟩ := hcut
      have hS0 := t.out
      clear t
      have h_a := K_a.out _ hS0
      have h_b := K_b.out _ hS0
      have h_ra := KR_a.out _ hS0
      have h_rb := KR_b.out _ hS0
      have HTab := Lib.hid (KT.out _ hS0)
      have bw := KF.out _ hS0
      clear hS0 KA KS KU KT KF K_a K_b KR_a KR_b d_a0 d_a1 d_b0 d_b1
      go_wp2_with fail
      refine (wParse_c M _ HTab.out false HOk.out 0 HZv.out).mono ?_
      rintro e w3 ⟨A_n, n_n, c_n, rfl, h_n, bn⟩
      replace h_a := h_a.below bn
      replace h_b := h_b.below bn
      replace h_ra := h_ra.below bn
      replace h_rb := h_rb.below bn
      replace HTab := Lib.hid (HTab.out.below bn)
      replace bw := below_two bw bn
      clear bn
      go_wp2_with fail
      have h_rn := row2_new w3 25 (.bool (sg 0)) (.slice A_n n_n c_n)
      have bn := below_new w3 (.cells #[Value.bool (sg 0), Value.slice A_n n_n c_n] 25)
      replace h_a := h_a.below bn
      replace h_b := h_b.below bn
      replace h_ra := h_ra.below bn
      replace h_rb := h_rb.below bn
      replace h_n := h_n.below bn
      replace HTab := Lib.hid (HTab.out.below bn)
      replace bw := below_two bw bn
      clear bn
      generalize w3.alloc (.cells #[Value.bool (sg 0), Value.slice A_n n_n c_n] 25) = w4 at *
      obtain ⟨q_n, eg⟩ : ∃ g, g = w3.heap.size := ⟨_, rfl⟩
      rw [← eg] at h_rn ⊢
      clear eg
      generalize w4 = wS at *
      have HA := Lib.hid h_a
      have HR := Lib.hid h_ra
      have HB := Lib.hid bw
      have d0 := h_ra.c0
      have d1 := h_ra.c1
      clear bw h_a h_b h_ra h_rb h_n h_rn
      go_region_with (first
        | (go_at_call 11; (with_reducible refine (wOf_c (0) (by decide) (by decide) _).mono ?_); rintro e w2 ⟨A_z, n_z, c_z, rfl, h_z, bn⟩; have b2 : Below wS.heap.size wS w2 := (by first | exact bn | exact below_two (Below.refl _ _).drew bn); have e0 := (HR.out.below b2).c0; have e1 := (HR.out.below b2).c1)
        | (go_at_call 14; (with_reducible refine (wCmp_c (HA.out.below b2) h_z (by decide) (by decide) 0 H2.out).mono ?_); rintro e w3 ⟨rfl, bm⟩; have b3 := below_two b2 bm)
        | (go_at_call 7; (with_reducible refine (wakes_any _ (HTab.out.below b3)).mono ?_); rintro e w4 ⟨rfl, bk⟩; have b4 := below_two b3 bk))
      all_goals (go_wp2; go_ret; exact ⟨rfl, below_two HB.out b4⟩)

end Go.Proofs.YtgdchljbjnhchaaDoor.lawWholeTexts

/- The walk of WholeTexts where the first number is above 0. Condition: at most 60 limbs. -/
namespace Go.Proofs.YtgdchljbjnhchaaDoor.lawWholeTexts
open Go.ChangeShapes Go.WideShapes Go.ChangeAt Go.RowKit Limb
set_option linter.unusedVariables false

set_option maxHeartbeats 40000000 in
set_option maxRecDepth 100000 in
theorem textsP (g_a : Bool) (A_a : Option Addr) (n_a c_a : Nat) (xs_a : List Nat) (g_b : Bool) (A_b : Option Addr) (n_b c_b : Nat) (xs_b : List Nat) (w : World) (i_a : IsN w A_a n_a xs_a) (hc_a : n_a ≤ c_a) (hm_a : c_a ≤ maxLen) (i_b : IsN w A_b n_b xs_b) (hc_b : n_b ≤ c_b) (hm_b : c_b ≤ maxLen) (T : Tab w) (l_a : n_a ≤ 60) (l_b : n_b ≤ 60) (hsg : 0 < zOf g_a (Limb.val xs_a)) :
    Calls Tryd.prog 6 #[.agg #[.bool g_a, .slice A_a n_a c_a], .agg #[.bool g_b, .slice A_b n_b c_b]] w fun e w' => e = .returned (.bool true) ∧ Below w.heap.size w w' := by
  have HTab := Lib.hid T
  clear T
  have bw := bel_refl w
  have T_a : RowKit.Hid (decide (60 < n_a) = false) := by show _ = _; simp; omega
  have T_b : RowKit.Hid (decide (60 < n_b) = false) := by show _ = _; simp; omega
  have h_a : ZZ w g_a A_a n_a c_a xs_a (zOf g_a (Limb.val xs_a)) 60 := ZZ.of ⟨i_a, rfl, hc_a, by omega⟩
  generalize zOf g_a (Limb.val xs_a) = z_a at h_a hsg
  have h_b : ZZ w g_b A_b n_b c_b xs_b (zOf g_b (Limb.val xs_b)) 60 := ZZ.of ⟨i_b, rfl, hc_b, by omega⟩
  generalize zOf g_b (Limb.val xs_b) = z_b at h_b
  have h_ra := row2_new w 25 (.bool g_a) (.slice A_a n_a c_a)
  have bn := below_new w (.cells #[Value.bool g_a, Value.slice A_a n_a c_a] 25)
  replace h_a := h_a.below bn
  replace h_b := h_b.below bn
  replace HTab := Lib.hid (HTab.out.below bn)
  replace bw := below_two bw bn
  clear bn
  have h_rb := row2_new (w.alloc (.cells #[Value.bool g_a, Value.slice A_a n_a c_a] 25)) 25 (.bool g_b) (.slice A_b n_b c_b)
  have bn := below_new (w.alloc (.cells #[Value.bool g_a, Value.slice A_a n_a c_a] 25)) (.cells #[Value.bool g_b, Value.slice A_b n_b c_b] 25)
  replace h_a := h_a.below bn
  replace h_b := h_b.below bn
  replace h_ra := h_ra.below bn
  replace HTab := Lib.hid (HTab.out.below bn)
  replace bw := below_two bw bn
  clear bn
  simp only [World.size_alloc] at h_ra h_rb
  have hl : (decT z_a.natAbs).length ≤ 601 := Nat.le_trans (decT_len_limbs (lt_pow h_a.nn)) (by decide)
  obtain ⟨e, he⟩ : ∃ e, decide (z_a = z_b) = e := ⟨_, rfl⟩
  have hb := zT_beq z_a z_b
  have hve := cmpZ_zero z_a z_b
  rw [he] at hb hve
  have hf := zT_len z_a
  have hbyte : lim (zT z_a) 0 ≠ 45 := zT_first_pos (by omega)
  obtain ⟨S, hS⟩ : ∃ S, strOf (zT z_a) = S := ⟨_, rfl⟩
  obtain ⟨U, hU⟩ : ∃ U, strOf (zT z_b) = U := ⟨_, rfl⟩
  rw [hS, hU] at hb
  have hSs : S.size = (zT z_a).length := by rw [← hS, size_strOf]
  have h0S : 0 < S.size := by omega
  have hS1 : S.size ≤ 1000 := by omega
  have h00 : ((S.size : Int) == 0) = false := by rw [beq_eq_false_iff_ne]; omega
  obtain ⟨d, hd⟩ : ∃ d, (S[0]'h0S).toNat = d := ⟨_, rfl⟩
  have hdl : d = lim (zT z_a) 0 := by rw [← hd, byte_at S 0 h0S, ← hS, bytesOf_strOf (zT_bytes z_a)]
  have hd45 : ((d : Int) == 45) = false := by rw [beq_eq_false_iff_ne]; rw [← hdl] at hbyte; omega
  obtain ⟨M, hM⟩ : ∃ M, (⟨#[45]⟩ : ByteArray) ++ S = M := ⟨_, rfl⟩
  have hMb := minus_bytes hS hM
  obtain ⟨v, hv⟩ : ∃ v, cmpZ z_a z_b = v := ⟨_, rfl⟩
  rw [hv] at hve
  have H2 : RowKit.Hid (cmpZ z_a 0 = 1) := cmpZ_gt hsg
  have HOk : RowKit.Hid (zOk (bytesOf M) = true) := by
    show _ = _
    rw [hMb]; exact (minus_pos hsg (by omega)).1
  have HZv : RowKit.Hid (zV (bytesOf M) = (-z_a)) := by show _ = _; rw [hMb]; exact (minus_pos hsg (by omega)).2
  have hS := Lib.hid hS
  have hU := Lib.hid hU
  have hv := Lib.hid hv
  clear he hf hbyte hSs hdl hMb hl hsg
  go_enter Tryd.func6, Tryd.ntmps6
  go_wp2_with fail
  generalize ((w.alloc (.cells #[Value.bool g_a, Value.slice A_a n_a c_a] 25)).alloc (.cells #[Value.bool g_b, Value.slice A_b n_b c_b] 25)) = wP at *
  obtain ⟨q_b, eg⟩ : ∃ g, g = w.heap.size + 1 := ⟨_, rfl⟩
  rw [← eg] at h_rb ⊢
  have E_b := Lib.hid eg
  clear eg
  obtain ⟨q_a, eg⟩ : ∃ g, g = w.heap.size := ⟨_, rfl⟩
  rw [← eg] at h_ra ⊢
  have E_a := Lib.hid eg
  clear eg
  refine (long_c g_a A_a n_a c_a false T_a.out _).mono ?_
  rintro e w1 ⟨rfl, bn⟩
  replace h_a := h_a.below bn
  replace h_b := h_b.below bn
  replace h_ra := h_ra.below bn
  replace h_rb := h_rb.below bn
  replace HTab := Lib.hid (HTab.out.below bn)
  replace bw := below_two bw bn
  clear bn
  have d_a0 := h_ra.c0
  have d_a1 := h_ra.c1
  have d_b0 := h_rb.c0
  have d_b1 := h_rb.c1
  go_wp2_with fail
  clear d_a0 d_a1 d_b0 d_b1
  refine (long_c g_b A_b n_b c_b false T_b.out _).mono ?_
  rintro e w2 ⟨rfl, bn⟩
  replace h_a := h_a.below bn
  replace h_b := h_b.below bn
  replace h_ra := h_ra.below bn
  replace h_rb := h_rb.below bn
  replace HTab := Lib.hid (HTab.out.below bn)
  replace bw := below_two bw bn
  clear bn
  have d_a0 := h_ra.c0
  have d_a1 := h_ra.c1
  have d_b0 := h_rb.c0
  have d_b1 := h_rb.c1
  go_wp2_with fail
  clear d_a0 d_a1 d_b0 d_b1
  generalize w2 = wS at *
  have KA : RowKit.Hid (∀ wx, Below wS.heap.size wS wx → (wx.cell? ⟨q_a, 0, none⟩ = some (.bool g_a) ∧ wx.cell? ⟨q_a, 1, none⟩ = some (.slice A_a n_a c_a) ∧ wx.cell? ⟨q_b, 0, none⟩ = some (.bool g_b) ∧ wx.cell? ⟨q_b, 1, none⟩ = some (.slice A_b n_b c_b) ∧ Below wS.heap.size wS wx)) := fun wx hb => ⟨(h_ra.below hb).c0, (h_ra.below hb).c1, (h_rb.below hb).c0, (h_rb.below hb).c1, hb⟩
  have KS : RowKit.Hid (∀ wx w2, (wx.cell? ⟨q_a, 0, none⟩ = some (.bool g_a) ∧ wx.cell? ⟨q_a, 1, none⟩ = some (.slice A_a n_a c_a) ∧ wx.cell? ⟨q_b, 0, none⟩ = some (.bool g_b) ∧ wx.cell? ⟨q_b, 1, none⟩ = some (.slice A_b n_b c_b) ∧ Below wS.heap.size wS wx) → Below wx.heap.size wx w2 → (w2.cell? ⟨q_a, 0, none⟩ = some (.bool g_a) ∧ w2.cell? ⟨q_a, 1, none⟩ = some (.slice A_a n_a c_a) ∧ w2.cell? ⟨q_b, 0, none⟩ = some (.bool g_b) ∧ w2.cell? ⟨q_b, 1, none⟩ = some (.slice A_b n_b c_b) ∧ Below wS.heap.size wS w2)) := fun wx w2 hS bn => KA.out _ (below_two hS.2.2.2.2 bn)
  have KU : RowKit.Hid (∀ (wx : World) (q : Nat) (u v : Value), (wx.cell? ⟨q_a, 0, none⟩ = some (.bool g_a) ∧ wx.cell? ⟨q_a, 1, none⟩ = some (.slice A_a n_a c_a) ∧ wx.cell? ⟨q_b, 0, none⟩ = some (.bool g_b) ∧ wx.cell? ⟨q_b, 1, none⟩ = some (.slice A_b n_b c_b) ∧ Below wS.heap.size wS wx) → wS.heap.size ≤ q → (((wx.setCell ⟨q, 0, none⟩ u).setCell ⟨q, 1, none⟩ v).cell? ⟨q_a, 0, none⟩ = some (.bool g_a) ∧ ((wx.setCell ⟨q, 0, none⟩ u).setCell ⟨q, 1, none⟩ v).cell? ⟨q_a, 1, none⟩ = some (.slice A_a n_a c_a) ∧ ((wx.setCell ⟨q, 0, none⟩ u).setCell ⟨q, 1, none⟩ v).cell? ⟨q_b, 0, none⟩ = some (.bool g_b) ∧ ((wx.setCell ⟨q, 0, none⟩ u).setCell ⟨q, 1, none⟩ v).cell? ⟨q_b, 1, none⟩ = some (.slice A_b n_b c_b) ∧ Below wS.heap.size wS ((wx.setCell ⟨q, 0, none⟩ u).setCell ⟨q, 1, none⟩ v))) := fun wx q u v hS hq => KA.out _ ((hS.2.2.2.2.setCell (p := ⟨q, 0, none⟩) hq u).setCell (p := ⟨q, 1, none⟩) hq v)
  have K_a : RowKit.Hid (∀ wx, (wx.cell? ⟨q_a, 0, none⟩ = some (.bool g_a) ∧ wx.cell? ⟨q_a, 1, none⟩ = some (.slice A_a n_a c_a) ∧ wx.cell? ⟨q_b, 0, none⟩ = some (.bool g_b) ∧ wx.cell? ⟨q_b, 1, none⟩ = some (.slice A_b n_b c_b) ∧ Below wS.heap.size wS wx) → ZZ wx g_a A_a n_a c_a xs_a z_a 60) := fun wx hS => h_a.below hS.2.2.2.2
  have K_b : RowKit.Hid (∀ wx, (wx.cell? ⟨q_a, 0, none⟩ = some (.bool g_a) ∧ wx.cell? ⟨q_a, 1, none⟩ = some (.slice A_a n_a c_a) ∧ wx.cell? ⟨q_b, 0, none⟩ = some (.bool g_b) ∧ wx.cell? ⟨q_b, 1, none⟩ = some (.slice A_b n_b c_b) ∧ Below wS.heap.size wS wx) → ZZ wx g_b A_b n_b c_b xs_b z_b 60) := fun wx hS => h_b.below hS.2.2.2.2
  have KR_a : RowKit.Hid (∀ wx, (wx.cell? ⟨q_a, 0, none⟩ = some (.bool g_a) ∧ wx.cell? ⟨q_a, 1, none⟩ = some (.slice A_a n_a c_a) ∧ wx.cell? ⟨q_b, 0, none⟩ = some (.bool g_b) ∧ wx.cell? ⟨q_b, 1, none⟩ = some (.slice A_b n_b c_b) ∧ Below wS.heap.size wS wx) → Row2 wx q_a 25 (.bool g_a) (.slice A_a n_a c_a)) := fun wx hS => h_ra.below hS.2.2.2.2
  have KR_b : RowKit.Hid (∀ wx, (wx.cell? ⟨q_a, 0, none⟩ = some (.bool g_a) ∧ wx.cell? ⟨q_a, 1, none⟩ = some (.slice A_a n_a c_a) ∧ wx.cell? ⟨q_b, 0, none⟩ = some (.bool g_b) ∧ wx.cell? ⟨q_b, 1, none⟩ = some (.slice A_b n_b c_b) ∧ Below wS.heap.size wS wx) → Row2 wx q_b 25 (.bool g_b) (.slice A_b n_b c_b)) := fun wx hS => h_rb.below hS.2.2.2.2
  have KT : RowKit.Hid (∀ wx, (wx.cell? ⟨q_a, 0, none⟩ = some (.bool g_a) ∧ wx.cell? ⟨q_a, 1, none⟩ = some (.slice A_a n_a c_a) ∧ wx.cell? ⟨q_b, 0, none⟩ = some (.bool g_b) ∧ wx.cell? ⟨q_b, 1, none⟩ = some (.slice A_b n_b c_b) ∧ Below wS.heap.size wS wx) → Tab wx) := fun wx hS => HTab.out.below hS.2.2.2.2
  have HF := Lib.hid bw
  have KF : RowKit.Hid (∀ wx, (wx.cell? ⟨q_a, 0, none⟩ = some (.bool g_a) ∧ wx.cell? ⟨q_a, 1, none⟩ = some (.slice A_a n_a c_a) ∧ wx.cell? ⟨q_b, 0, none⟩ = some (.bool g_b) ∧ wx.cell? ⟨q_b, 1, none⟩ = some (.slice A_b n_b c_b) ∧ Below wS.heap.size wS wx) → Below w.heap.size w wx) := fun wx hS => below_two HF.out hS.2.2.2.2
  obtain ⟨d_a0, d_a1, d_b0, d_b1, _⟩ := KA.out _ (Below.refl _ _)
  clear h_a h_b h_ra h_rb HTab bw
  clear HF
  go_cut [5, 6] from 16 to 19 (fun s5 s6 wx => s5 = .string S ∧ s6 = .string U ∧ RowKit.Hid (wx.cell? ⟨q_a, 0, none⟩ = some (.bool g_a) ∧ wx.cell? ⟨q_a, 1, none⟩ = some (.slice A_a n_a c_a) ∧ wx.cell? ⟨q_b, 0, none⟩ = some (.bool g_b) ∧ wx.cell? ⟨q_b, 1, none⟩ = some (.slice A_b n_b c_b) ∧ Below wS.heap.size wS wx))
  case first =>
    try dsimp only [List.append]
    go_region_held3 (fun wx => wx.cell? ⟨q_a, 0, none⟩ = some (.bool g_a) ∧ wx.cell? ⟨q_a, 1, none⟩ = some (.slice A_a n_a c_a) ∧ wx.cell? ⟨q_b, 0, none⟩ = some (.bool g_b) ∧ wx.cell? ⟨q_b, 1, none⟩ = some (.slice A_b n_b c_b) ∧ Below wS.heap.size wS wx) (first | assumption | exact KA.out _ ((Below.refl _ _).drew) | (with_reducible refine KS.out _ _ ?_ (below_new _ _); assumption)) (first
      | (go_at_call 16; (have mk := bn_s; clear mk); (with_reducible refine (wText_c (KT.out _ (by assumption)) (K_b.out _ (by assumption)) (by decide) U hU.out).mono ?_); rintro e w2 ⟨rfl, bn_t⟩; have hS2 := KS.out _ _ (by assumption) bn_t)
      | (go_at_call 16; (with_reducible refine (wText_c (KT.out _ (by assumption)) (K_a.out _ (by assumption)) (by decide) S hS.out).mono ?_); rintro e w2 ⟨rfl, bn_s⟩; have hS2 := KS.out _ _ (by assumption) bn_s))
    all_goals (go_wp2; go_meet)
    all_goals (case rel => exact ⟨rfl, rfl, Lib.hid (by assumption)⟩)
  case rest =>
    obtain ⟨rfl, rfl, t⟩ := hcut
    have hS0 := t.out
    clear t
    have h_a := K_a.out _ hS0
    have h_b := K_b.out _ hS0
    have h_ra := KR_a.out _ hS0
    have h_rb := KR_b.out _ hS0
    have HTab := Lib.hid (KT.out _ hS0)
    have bw := KF.out _ hS0
    clear hS0 KA KS KU KT KF K_a K_b KR_a KR_b d_a0 d_a1 d_b0 d_b1
    go_wp2_with fail
    generalize wc = wS at *
    have KA : RowKit.Hid (∀ wx, Below wS.heap.size wS wx → (wx.cell? ⟨q_a, 0, none⟩ = some (.bool g_a) ∧ wx.cell? ⟨q_a, 1, none⟩ = some (.slice A_a n_a c_a) ∧ wx.cell? ⟨q_b, 0, none⟩ = some (.bool g_b) ∧ wx.cell? ⟨q_b, 1, none⟩ = some (.slice A_b n_b c_b) ∧ Below wS.heap.size wS wx)) := fun wx hb => ⟨(h_ra.below hb).c0, (h_ra.below hb).c1, (h_rb.below hb).c0, (h_rb.below hb).c1, hb⟩
    have KS : RowKit.Hid (∀ wx w2, (wx.cell? ⟨q_a, 0, none⟩ = some (.bool g_a) ∧ wx.cell? ⟨q_a, 1, none⟩ = some (.slice A_a n_a c_a) ∧ wx.cell? ⟨q_b, 0, none⟩ = some (.bool g_b) ∧ wx.cell? ⟨q_b, 1, none⟩ = some (.slice A_b n_b c_b) ∧ Below wS.heap.size wS wx) → Below wx.heap.size wx w2 → (w2.cell? ⟨q_a, 0, none⟩ = some (.bool g_a) ∧ w2.cell? ⟨q_a, 1, none⟩ = some (.slice A_a n_a c_a) ∧ w2.cell? ⟨q_b, 0, none⟩ = some (.bool g_b) ∧ w2.cell? ⟨q_b, 1, none⟩ = some (.slice A_b n_b c_b) ∧ Below wS.heap.size wS w2)) := fun wx w2 hS bn => KA.out _ (below_two hS.2.2.2.2 bn)
    have KU : RowKit.Hid (∀ (wx : World) (q : Nat) (u v : Value), (wx.cell? ⟨q_a, 0, none⟩ = some (.bool g_a) ∧ wx.cell? ⟨q_a, 1, none⟩ = some (.slice A_a n_a c_a) ∧ wx.cell? ⟨q_b, 0, none⟩ = some (.bool g_b) ∧ wx.cell? ⟨q_b, 1, none⟩ = some (.slice A_b n_b c_b) ∧ Below wS.heap.size wS wx) → wS.heap.size ≤ q → (((wx.setCell ⟨q, 0, none⟩ u).setCell ⟨q, 1, none⟩ v).cell? ⟨q_a, 0, none⟩ = some (.bool g_a) ∧ ((wx.setCell ⟨q, 0, none⟩ u).setCell ⟨q, 1, none⟩ v).cell? ⟨q_a, 1, none⟩ = some (.slice A_a n_a c_a) ∧ ((wx.setCell ⟨q, 0, none⟩ u).setCell ⟨q, 1, none⟩ v).cell? ⟨q_b, 0, none⟩ = some (.bool g_b) ∧ ((wx.setCell ⟨q, 0, none⟩ u).setCell ⟨q, 1, none⟩ v).cell? ⟨q_b, 1, none⟩ = some (.slice A_b n_b c_b) ∧ Below wS.heap.size wS ((wx.setCell ⟨q, 0, none⟩ u).setCell ⟨q, 1, none⟩ v))) := fun wx q u v hS hq => KA.out _ ((hS.2.2.2.2.setCell (p := ⟨q, 0, none⟩) hq u).setCell (p := ⟨q, 1, none⟩) hq v)
    have K_a : RowKit.Hid (∀ wx, (wx.cell? ⟨q_a, 0, none⟩ = some (.bool g_a) ∧ wx.cell? ⟨q_a, 1, none⟩ = some (.slice A_a n_a c_a) ∧ wx.cell? ⟨q_b, 0, none⟩ = some (.bool g_b) ∧ wx.cell? ⟨q_b, 1, none⟩ = some (.slice A_b n_b c_b) ∧ Below wS.heap.size wS wx) → ZZ wx g_a A_a n_a c_a xs_a z_a 60) := fun wx hS => h_a.below hS.2.2.2.2
    have K_b : RowKit.Hid (∀ wx, (wx.cell? ⟨q_a, 0, none⟩ = some (.bool g_a) ∧ wx.cell? ⟨q_a, 1, none⟩ = some (.slice A_a n_a c_a) ∧ wx.cell? ⟨q_b, 0, none⟩ = some (.bool g_b) ∧ wx.cell? ⟨q_b, 1, none⟩ = some (.slice A_b n_b c_b) ∧ Below wS.heap.size wS wx) → ZZ wx g_b A_b n_b c_b xs_b z_b 60) := fun wx hS => h_b.below hS.2.2.2.2
    have KR_a : RowKit.Hid (∀ wx, (wx.cell? ⟨q_a, 0, none⟩ = some (.bool g_a) ∧ wx.cell? ⟨q_a, 1, none⟩ = some (.slice A_a n_a c_a) ∧ wx.cell? ⟨q_b, 0, none⟩ = some (.bool g_b) ∧ wx.cell? ⟨q_b, 1, none⟩ = some (.slice A_b n_b c_b) ∧ Below wS.heap.size wS wx) → Row2 wx q_a 25 (.bool g_a) (.slice A_a n_a c_a)) := fun wx hS => h_ra.below hS.2.2.2.2
    have KR_b : RowKit.Hid (∀ wx, (wx.cell? ⟨q_a, 0, none⟩ = some (.bool g_a) ∧ wx.cell? ⟨q_a, 1, none⟩ = some (.slice A_a n_a c_a) ∧ wx.cell? ⟨q_b, 0, none⟩ = some (.bool g_b) ∧ wx.cell? ⟨q_b, 1, none⟩ = some (.slice A_b n_b c_b) ∧ Below wS.heap.size wS wx) → Row2 wx q_b 25 (.bool g_b) (.slice A_b n_b c_b)) := fun wx hS => h_rb.below hS.2.2.2.2
    have KT : RowKit.Hid (∀ wx, (wx.cell? ⟨q_a, 0, none⟩ = some (.bool g_a) ∧ wx.cell? ⟨q_a, 1, none⟩ = some (.slice A_a n_a c_a) ∧ wx.cell? ⟨q_b, 0, none⟩ = some (.bool g_b) ∧ wx.cell? ⟨q_b, 1, none⟩ = some (.slice A_b n_b c_b) ∧ Below wS.heap.size wS wx) → Tab wx) := fun wx hS => HTab.out.below hS.2.2.2.2
    have HF := Lib.hid bw
    have KF : RowKit.Hid (∀ wx, (wx.cell? ⟨q_a, 0, none⟩ = some (.bool g_a) ∧ wx.cell? ⟨q_a, 1, none⟩ = some (.slice A_a n_a c_a) ∧ wx.cell? ⟨q_b, 0, none⟩ = some (.bool g_b) ∧ wx.cell? ⟨q_b, 1, none⟩ = some (.slice A_b n_b c_b) ∧ Below wS.heap.size wS wx) → Below w.heap.size w wx) := fun wx hS => below_two HF.out hS.2.2.2.2
    obtain ⟨d_a0, d_a1, d_b0, d_b1, _⟩ := KA.out _ (Below.refl _ _)
    clear h_a h_b h_ra h_rb HTab bw
    clear HF
    go_cut [42] from 20 to 41 (fun s0 wx => s0 = .bool false ∧ RowKit.Hid (wx.cell? ⟨q_a, 0, none⟩ = some (.bool g_a) ∧ wx.cell? ⟨q_a, 1, none⟩ = some (.slice A_a n_a c_a) ∧ wx.cell? ⟨q_b, 0, none⟩ = some (.bool g_b) ∧ wx.cell? ⟨q_b, 1, none⟩ = some (.slice A_b n_b c_b) ∧ Below wS.heap.size wS wx))
    case first =>
      try dsimp only [List.append]
      go_region_held3 (fun wx => wx.cell? ⟨q_a, 0, none⟩ = some (.bool g_a) ∧ wx.cell? ⟨q_a, 1, none⟩ = some (.slice A_a n_a c_a) ∧ wx.cell? ⟨q_b, 0, none⟩ = some (.bool g_b) ∧ wx.cell? ⟨q_b, 1, none⟩ = some (.slice A_b n_b c_b) ∧ Below wS.heap.size wS wx) (first | assumption | exact KA.out _ ((Below.refl _ _).drew) | (with_reducible refine KS.out _ _ ?_ (below_new _ _); assumption)) (first
        | (go_at_call 14; (have mk := bn_z; clear mk); (with_reducible refine (wCmp_c (K_a.out _ (by assumption)) h_z (by decide) (by decide) 1 H2.out).mono ?_); rintro e w2 ⟨rfl, bn_c2⟩; have hS2 := KS.out _ _ (by assumption) bn_c2)
        | (go_at_call 11; (have mk := bn_c; clear mk); (with_reducible refine (wOf_c (0) (by decide) (by decide) _).mono ?_); rintro e w2 ⟨A_z, n_z, c_z, rfl, h_z, bn_z⟩; have hS2 := KS.out _ _ (by assumption) bn_z)
        | (go_at_call 14; (with_reducible refine (wCmp_c (K_a.out _ (by assumption)) (K_b.out _ (by assumption)) (by decide) (by decide) v hv.out).mono ?_); rintro e w2 ⟨rfl, bn_c⟩; have hS2 := KS.out _ _ (by assumption) bn_c))
      all_goals (go_wp2; go_meet)
      all_goals (case rel => exact ⟨rfl, Lib.hid (by assumption)⟩)
    case rest =>
      obtain ⟨rfl, t⟩ := hcut
      have hS0 := t.out
      clear t
      have h_a := K_a.out _ hS0
      have h_b := K_b.out _ hS0
      have h_ra := KR_a.out _ hS0
      have h_rb := KR_b.out _ hS0
      have HTab := Lib.hid (KT.out _ hS0)
      have bw := KF.out _ hS0
      clear hS0 KA KS KU KT KF K_a K_b KR_a KR_b d_a0 d_a1 d_b0 d_b1
      go_wp2_with fail
      refine (wParse_c M _ HTab.out true HOk.out (-z_a) HZv.out).mono ?_
      rintro e w3 ⟨A_n, n_n, c_n, rfl, h_n, bn⟩
      replace h_a := h_a.below bn
      replace h_b := h_b.below bn
      replace h_ra := h_ra.below bn
      replace h_rb := h_rb.below bn
      replace HTab := Lib.hid (HTab.out.below bn)
      replace bw := below_two bw bn
      clear bn
      go_wp2_with fail
      have h_rn := row2_new w3 25 (.bool (sg (-z_a))) (.slice A_n n_n c_n)
      have bn := below_new w3 (.cells #[Value.bool (sg (-z_a)), Value.slice A_n n_n c_n] 25)
      replace h_a := h_a.below bn
      replace h_b := h_b.below bn
      replace h_ra := h_ra.below bn
      replace h_rb := h_rb.below bn
      replace h_n := h_n.below bn
      replace HTab := Lib.hid (HTab.out.below bn)
      replace bw := below_two bw bn
      clear bn
      generalize w3.alloc (.cells #[Value.bool (sg (-z_a)), Value.slice A_n n_n c_n] 25) = w4 at *
      obtain ⟨q_n, eg⟩ : ∃ g, g = w3.heap.size := ⟨_, rfl⟩
      rw [← eg] at h_rn ⊢
      clear eg
      generalize w4 = wS at *
      have KA : RowKit.Hid (∀ wx, Below wS.heap.size wS wx → (wx.cell? ⟨q_a, 0, none⟩ = some (.bool g_a) ∧ wx.cell? ⟨q_a, 1, none⟩ = some (.slice A_a n_a c_a) ∧ wx.cell? ⟨q_b, 0, none⟩ = some (.bool g_b) ∧ wx.cell? ⟨q_b, 1, none⟩ = some (.slice A_b n_b c_b) ∧ wx.cell? ⟨q_n, 0, none⟩ = some (.bool (sg (-z_a))) ∧ wx.cell? ⟨q_n, 1, none⟩ = some (.slice A_n n_n c_n) ∧ Below wS.heap.size wS wx)) := fun wx hb => ⟨(h_ra.below hb).c0, (h_ra.below hb).c1, (h_rb.below hb).c0, (h_rb.below hb).c1, (h_rn.below hb).c0, (h_rn.below hb).c1, hb⟩
      have KS : RowKit.Hid (∀ wx w2, (wx.cell? ⟨q_a, 0, none⟩ = some (.bool g_a) ∧ wx.cell? ⟨q_a, 1, none⟩ = some (.slice A_a n_a c_a) ∧ wx.cell? ⟨q_b, 0, none⟩ = some (.bool g_b) ∧ wx.cell? ⟨q_b, 1, none⟩ = some (.slice A_b n_b c_b) ∧ wx.cell? ⟨q_n, 0, none⟩ = some (.bool (sg (-z_a))) ∧ wx.cell? ⟨q_n, 1, none⟩ = some (.slice A_n n_n c_n) ∧ Below wS.heap.size wS wx) → Below wx.heap.size wx w2 → (w2.cell? ⟨q_a, 0, none⟩ = some (.bool g_a) ∧ w2.cell? ⟨q_a, 1, none⟩ = some (.slice A_a n_a c_a) ∧ w2.cell? ⟨q_b, 0, none⟩ = some (.bool g_b) ∧ w2.cell? ⟨q_b, 1, none⟩ = some (.slice A_b n_b c_b) ∧ w2.cell? ⟨q_n, 0, none⟩ = some (.bool (sg (-z_a))) ∧ w2.cell? ⟨q_n, 1, none⟩ = some (.slice A_n n_n c_n) ∧ Below wS.heap.size wS w2)) := fun wx w2 hS bn => KA.out _ (below_two hS.2.2.2.2.2.2 bn)
      have KU : RowKit.Hid (∀ (wx : World) (q : Nat) (u v : Value), (wx.cell? ⟨q_a, 0, none⟩ = some (.bool g_a) ∧ wx.cell? ⟨q_a, 1, none⟩ = some (.slice A_a n_a c_a) ∧ wx.cell? ⟨q_b, 0, none⟩ = some (.bool g_b) ∧ wx.cell? ⟨q_b, 1, none⟩ = some (.slice A_b n_b c_b) ∧ wx.cell? ⟨q_n, 0, none⟩ = some (.bool (sg (-z_a))) ∧ wx.cell? ⟨q_n, 1, none⟩ = some (.slice A_n n_n c_n) ∧ Below wS.heap.size wS wx) → wS.heap.size ≤ q → (((wx.setCell ⟨q, 0, none⟩ u).setCell ⟨q, 1, none⟩ v).cell? ⟨q_a, 0, none⟩ = some (.bool g_a) ∧ ((wx.setCell ⟨q, 0, none⟩ u).setCell ⟨q, 1, none⟩ v).cell? ⟨q_a, 1, none⟩ = some (.slice A_a n_a c_a) ∧ ((wx.setCell ⟨q, 0, none⟩ u).setCell ⟨q, 1, none⟩ v).cell? ⟨q_b, 0, none⟩ = some (.bool g_b) ∧ ((wx.setCell ⟨q, 0, none⟩ u).setCell ⟨q, 1, none⟩ v).cell? ⟨q_b, 1, none⟩ = some (.slice A_b n_b c_b) ∧ ((wx.setCell ⟨q, 0, none⟩ u).setCell ⟨q, 1, none⟩ v).cell? ⟨q_n, 0, none⟩ = some (.bool (sg (-z_a))) ∧ ((wx.setCell ⟨q, 0, none⟩ u).setCell ⟨q, 1, none⟩ v).cell? ⟨q_n, 1, none⟩ = some (.slice A_n n_n c_n) ∧ Below wS.heap.size wS ((wx.setCell ⟨q, 0, none⟩ u).setCell ⟨q, 1, none⟩ v))) := fun wx q u v hS hq => KA.out _ ((hS.2.2.2.2.2.2.setCell (p := ⟨q, 0, none⟩) hq u).setCell (p := ⟨q, 1, none⟩) hq v)
      have K_a : RowKit.Hid (∀ wx, (wx.cell? ⟨q_a, 0, none⟩ = some (.bool g_a) ∧ wx.cell? ⟨q_a, 1, none⟩ = some (.slice A_a n_a c_a) ∧ wx.cell? ⟨q_b, 0, none⟩ = some (.bool g_b) ∧ wx.cell? ⟨q_b, 1, none⟩ = some (.slice A_b n_b c_b) ∧ wx.cell? ⟨q_n, 0, none⟩ = some (.bool (sg (-z_a))) ∧ wx.cell? ⟨q_n, 1, none⟩ = some (.slice A_n n_n c_n) ∧ Below wS.heap.size wS wx) → ZZ wx g_a A_a n_a c_a xs_a z_a 60) := fun wx hS => h_a.below hS.2.2.2.2.2.2
      have K_b : RowKit.Hid (∀ wx, (wx.cell? ⟨q_a, 0, none⟩ = some (.bool g_a) ∧ wx.cell? ⟨q_a, 1, none⟩ = some (.slice A_a n_a c_a) ∧ wx.cell? ⟨q_b, 0, none⟩ = some (.bool g_b) ∧ wx.cell? ⟨q_b, 1, none⟩ = some (.slice A_b n_b c_b) ∧ wx.cell? ⟨q_n, 0, none⟩ = some (.bool (sg (-z_a))) ∧ wx.cell? ⟨q_n, 1, none⟩ = some (.slice A_n n_n c_n) ∧ Below wS.heap.size wS wx) → ZZ wx g_b A_b n_b c_b xs_b z_b 60) := fun wx hS => h_b.below hS.2.2.2.2.2.2
      have K_n : RowKit.Hid (∀ wx, (wx.cell? ⟨q_a, 0, none⟩ = some (.bool g_a) ∧ wx.cell? ⟨q_a, 1, none⟩ = some (.slice A_a n_a c_a) ∧ wx.cell? ⟨q_b, 0, none⟩ = some (.bool g_b) ∧ wx.cell? ⟨q_b, 1, none⟩ = some (.slice A_b n_b c_b) ∧ wx.cell? ⟨q_n, 0, none⟩ = some (.bool (sg (-z_a))) ∧ wx.cell? ⟨q_n, 1, none⟩ = some (.slice A_n n_n c_n) ∧ Below wS.heap.size wS wx) → ZZ wx (sg (-z_a)) A_n n_n c_n (limbs ((-z_a) : Int).natAbs) (-z_a) 223) := fun wx hS => h_n.below hS.2.2.2.2.2.2
      have KR_a : RowKit.Hid (∀ wx, (wx.cell? ⟨q_a, 0, none⟩ = some (.bool g_a) ∧ wx.cell? ⟨q_a, 1, none⟩ = some (.slice A_a n_a c_a) ∧ wx.cell? ⟨q_b, 0, none⟩ = some (.bool g_b) ∧ wx.cell? ⟨q_b, 1, none⟩ = some (.slice A_b n_b c_b) ∧ wx.cell? ⟨q_n, 0, none⟩ = some (.bool (sg (-z_a))) ∧ wx.cell? ⟨q_n, 1, none⟩ = some (.slice A_n n_n c_n) ∧ Below wS.heap.size wS wx) → Row2 wx q_a 25 (.bool g_a) (.slice A_a n_a c_a)) := fun wx hS => h_ra.below hS.2.2.2.2.2.2
      have KR_b : RowKit.Hid (∀ wx, (wx.cell? ⟨q_a, 0, none⟩ = some (.bool g_a) ∧ wx.cell? ⟨q_a, 1, none⟩ = some (.slice A_a n_a c_a) ∧ wx.cell? ⟨q_b, 0, none⟩ = some (.bool g_b) ∧ wx.cell? ⟨q_b, 1, none⟩ = some (.slice A_b n_b c_b) ∧ wx.cell? ⟨q_n, 0, none⟩ = some (.bool (sg (-z_a))) ∧ wx.cell? ⟨q_n, 1, none⟩ = some (.slice A_n n_n c_n) ∧ Below wS.heap.size wS wx) → Row2 wx q_b 25 (.bool g_b) (.slice A_b n_b c_b)) := fun wx hS => h_rb.below hS.2.2.2.2.2.2
      have KR_n : RowKit.Hid (∀ wx, (wx.cell? ⟨q_a, 0, none⟩ = some (.bool g_a) ∧ wx.cell? ⟨q_a, 1, none⟩ = some (.slice A_a n_a c_a) ∧ wx.cell? ⟨q_b, 0, none⟩ = some (.bool g_b) ∧ wx.cell? ⟨q_b, 1, none⟩ = some (.slice A_b n_b c_b) ∧ wx.cell? ⟨q_n, 0, none⟩ = some (.bool (sg (-z_a))) ∧ wx.cell? ⟨q_n, 1, none⟩ = some (.slice A_n n_n c_n) ∧ Below wS.heap.size wS wx) → Row2 wx q_n 25 (.bool (sg (-z_a))) (.slice A_n n_n c_n)) := fun wx hS => h_rn.below hS.2.2.2.2.2.2
      have KT : RowKit.Hid (∀ wx, (wx.cell? ⟨q_a, 0, none⟩ = some (.bool g_a) ∧ wx.cell? ⟨q_a, 1, none⟩ = some (.slice A_a n_a c_a) ∧ wx.cell? ⟨q_b, 0, none⟩ = some (.bool g_b) ∧ wx.cell? ⟨q_b, 1, none⟩ = some (.slice A_b n_b c_b) ∧ wx.cell? ⟨q_n, 0, none⟩ = some (.bool (sg (-z_a))) ∧ wx.cell? ⟨q_n, 1, none⟩ = some (.slice A_n n_n c_n) ∧ Below wS.heap.size wS wx) → Tab wx) := fun wx hS => HTab.out.below hS.2.2.2.2.2.2
      have HF := Lib.hid bw
      have KF : RowKit.Hid (∀ wx, (wx.cell? ⟨q_a, 0, none⟩ = some (.bool g_a) ∧ wx.cell? ⟨q_a, 1, none⟩ = some (.slice A_a n_a c_a) ∧ wx.cell? ⟨q_b, 0, none⟩ = some (.bool g_b) ∧ wx.cell? ⟨q_b, 1, none⟩ = some (.slice A_b n_b c_b) ∧ wx.cell? ⟨q_n, 0, none⟩ = some (.bool (sg (-z_a))) ∧ wx.cell? ⟨q_n, 1, none⟩ = some (.slice A_n n_n c_n) ∧ Below wS.heap.size wS wx) → Below w.heap.size w wx) := fun wx hS => below_two HF.out hS.2.2.2.2.2.2
      obtain ⟨d_a0, d_a1, d_b0, d_b1, d_n0, d_n1, _⟩ := KA.out _ (Below.refl _ _)
      clear h_a h_b h_ra h_rb h_n h_rn HTab bw
      clear HF
      try dsimp only [List.append]
      go_region_held3 (fun wx => wx.cell? ⟨q_a, 0, none⟩ = some (.bool g_a) ∧ wx.cell? ⟨q_a, 1, none⟩ = some (.slice A_a n_a c_a) ∧ wx.cell? ⟨q_b, 0, none⟩ = some (.bool g_b) ∧ wx.cell? ⟨q_b, 1, none⟩ = some (.slice A_b n_b c_b) ∧ wx.cell? ⟨q_n, 0, none⟩ = some (.bool (sg (-z_a))) ∧ wx.cell? ⟨q_n, 1, none⟩ = some (.slice A_n n_n c_n) ∧ Below wS.heap.size wS wx) (first | assumption | exact KA.out _ ((Below.refl _ _).drew) | (with_reducible refine KS.out _ _ ?_ (below_new _ _); assumption)) (first
        | (go_at_call 7; (have mk := bn_k1; clear mk); (with_reducible refine (wakes_any _ (KT.out _ (by assumption))).mono ?_); rintro e w2 ⟨rfl, bn_k⟩; have hS2 := KS.out _ _ (by assumption) bn_k)
        | (go_at_call 10; (have mk := bn_na; clear mk); (with_reducible refine (keepInt_c (K_n.out _ (by assumption)) h_na (by decide) (by decide) true (zsame rfl)).mono ?_); rintro e w2 ⟨rfl, bn_k1⟩; have hS2 := KS.out _ _ (by assumption) bn_k1)
        | (go_at_call 12; (have mk := bn_c3; clear mk); (with_reducible refine (wNeg_c (K_a.out _ (by assumption)) (by decide) (-z_a) rfl).mono ?_); rintro e w2 ⟨A_na, n_na, c_na, rfl, h_na, bn_na⟩; have hS2 := KS.out _ _ (by assumption) bn_na)
        | (go_at_call 14; (have mk := bn_z; clear mk); (with_reducible refine (wCmp_c (K_a.out _ (by assumption)) h_z (by decide) (by decide) 1 H2.out).mono ?_); rintro e w2 ⟨rfl, bn_c3⟩; have hS2 := KS.out _ _ (by assumption) bn_c3)
        | (go_at_call 11; (with_reducible refine (wOf_c (0) (by decide) (by decide) _).mono ?_); rintro e w2 ⟨A_z, n_z, c_z, rfl, h_z, bn_z⟩; have hS2 := KS.out _ _ (by assumption) bn_z))
      all_goals (go_wp2; go_ret; exact ⟨rfl, KF.out _ (by assumption)⟩)

end Go.Proofs.YtgdchljbjnhchaaDoor.lawWholeTexts

/- Of any two whole numbers: they have one text just if they are one, and a text begins with a sign just if the number is below 0. No condition. -/
namespace Go.Proofs.YtgdchljbjnhchaaDoor.lawWholeTexts
open Go.ChangeShapes Go.WideShapes Go.ChangeAt Go.RowKit Limb
set_option linter.unusedVariables false

set_option maxHeartbeats 40000000 in
set_option maxRecDepth 100000 in
theorem walk (g_a : Bool) (A_a : Option Addr) (n_a c_a : Nat) (xs_a : List Nat) (g_b : Bool) (A_b : Option Addr) (n_b c_b : Nat) (xs_b : List Nat) (w : World) (i_a : IsN w A_a n_a xs_a) (hc_a : n_a ≤ c_a) (hm_a : c_a ≤ maxLen) (i_b : IsN w A_b n_b xs_b) (hc_b : n_b ≤ c_b) (hm_b : c_b ≤ maxLen) (T : Tab w) :
    Calls Tryd.prog 6 #[.agg #[.bool g_a, .slice A_a n_a c_a], .agg #[.bool g_b, .slice A_b n_b c_b]] w fun e w' => e = .returned (.bool true) ∧ Below w.heap.size w w' := by
  by_cases hl2 : n_a ≤ 60 ∧ n_b ≤ 60
  · obtain ⟨l1, l2⟩ := hl2
    rcases Int.lt_trichotomy (zOf g_a (Limb.val xs_a)) 0 with h | h | h
    · exact textsN g_a A_a n_a c_a xs_a g_b A_b n_b c_b xs_b w i_a hc_a hm_a i_b hc_b hm_b T (by omega) (by omega) h
    · exact textsZ g_a A_a n_a c_a xs_a g_b A_b n_b c_b xs_b w i_a hc_a hm_a i_b hc_b hm_b T (by omega) (by omega) h
    · exact textsP g_a A_a n_a c_a xs_a g_b A_b n_b c_b xs_b w i_a hc_a hm_a i_b hc_b hm_b T (by omega) (by omega) h
  have HTab := Lib.hid T
  clear T
  have bw := bel_refl w
  by_cases l_a : 60 < n_a
  · have T_a : RowKit.Hid (decide (60 < n_a) = true) := by show _ = _; simp; omega
    have h_ra := row2_new w 25 (.bool g_a) (.slice A_a n_a c_a)
    have bn := below_new w (.cells #[Value.bool g_a, Value.slice A_a n_a c_a] 25)
    replace HTab := Lib.hid (HTab.out.below bn)
    replace bw := below_two bw bn
    clear bn
    have h_rb := row2_new (w.alloc (.cells #[Value.bool g_a, Value.slice A_a n_a c_a] 25)) 25 (.bool g_b) (.slice A_b n_b c_b)
    have bn := below_new (w.alloc (.cells #[Value.bool g_a, Value.slice A_a n_a c_a] 25)) (.cells #[Value.bool g_b, Value.slice A_b n_b c_b] 25)
    replace h_ra := h_ra.below bn
    replace HTab := Lib.hid (HTab.out.below bn)
    replace bw := below_two bw bn
    clear bn
    simp only [World.size_alloc] at h_ra h_rb
    go_enter Tryd.func6, Tryd.ntmps6
    go_wp2_with fail
    generalize ((w.alloc (.cells #[Value.bool g_a, Value.slice A_a n_a c_a] 25)).alloc (.cells #[Value.bool g_b, Value.slice A_b n_b c_b] 25)) = wP at *
    obtain ⟨q_b, eg⟩ : ∃ g, g = w.heap.size + 1 := ⟨_, rfl⟩
    rw [← eg] at h_rb ⊢
    have E_b := Lib.hid eg
    clear eg
    obtain ⟨q_a, eg⟩ : ∃ g, g = w.heap.size := ⟨_, rfl⟩
    rw [← eg] at h_ra ⊢
    have E_a := Lib.hid eg
    clear eg
    refine (long_c g_a A_a n_a c_a true T_a.out _).mono ?_
    rintro e w1 ⟨rfl, bn⟩
    replace h_ra := h_ra.below bn
    replace h_rb := h_rb.below bn
    replace HTab := Lib.hid (HTab.out.below bn)
    replace bw := below_two bw bn
    clear bn
    go_wp2_with ((go_at_call 7; (with_reducible refine (wakes_any _ HTab.out).mono ?_); rintro e w2 ⟨rfl, b2⟩))
    go_ret
    exact ⟨rfl, below_two bw b2⟩
  by_cases l_b : 60 < n_b
  · have T_b : RowKit.Hid (decide (60 < n_b) = true) := by show _ = _; simp; omega
    have T_a : RowKit.Hid (decide (60 < n_a) = false) := by show _ = _; simp; omega
    have h_ra := row2_new w 25 (.bool g_a) (.slice A_a n_a c_a)
    have bn := below_new w (.cells #[Value.bool g_a, Value.slice A_a n_a c_a] 25)
    replace HTab := Lib.hid (HTab.out.below bn)
    replace bw := below_two bw bn
    clear bn
    have h_rb := row2_new (w.alloc (.cells #[Value.bool g_a, Value.slice A_a n_a c_a] 25)) 25 (.bool g_b) (.slice A_b n_b c_b)
    have bn := below_new (w.alloc (.cells #[Value.bool g_a, Value.slice A_a n_a c_a] 25)) (.cells #[Value.bool g_b, Value.slice A_b n_b c_b] 25)
    replace h_ra := h_ra.below bn
    replace HTab := Lib.hid (HTab.out.below bn)
    replace bw := below_two bw bn
    clear bn
    simp only [World.size_alloc] at h_ra h_rb
    go_enter Tryd.func6, Tryd.ntmps6
    go_wp2_with fail
    generalize ((w.alloc (.cells #[Value.bool g_a, Value.slice A_a n_a c_a] 25)).alloc (.cells #[Value.bool g_b, Value.slice A_b n_b c_b] 25)) = wP at *
    obtain ⟨q_b, eg⟩ : ∃ g, g = w.heap.size + 1 := ⟨_, rfl⟩
    rw [← eg] at h_rb ⊢
    have E_b := Lib.hid eg
    clear eg
    obtain ⟨q_a, eg⟩ : ∃ g, g = w.heap.size := ⟨_, rfl⟩
    rw [← eg] at h_ra ⊢
    have E_a := Lib.hid eg
    clear eg
    refine (long_c g_a A_a n_a c_a false T_a.out _).mono ?_
    rintro e w1 ⟨rfl, bn⟩
    replace h_ra := h_ra.below bn
    replace h_rb := h_rb.below bn
    replace HTab := Lib.hid (HTab.out.below bn)
    replace bw := below_two bw bn
    clear bn
    have d_a0 := h_ra.c0
    have d_a1 := h_ra.c1
    have d_b0 := h_rb.c0
    have d_b1 := h_rb.c1
    go_wp2_with fail
    clear d_a0 d_a1 d_b0 d_b1
    refine (long_c g_b A_b n_b c_b true T_b.out _).mono ?_
    rintro e w2 ⟨rfl, bn⟩
    replace h_ra := h_ra.below bn
    replace h_rb := h_rb.below bn
    replace HTab := Lib.hid (HTab.out.below bn)
    replace bw := below_two bw bn
    clear bn
    go_wp2_with ((go_at_call 7; (with_reducible refine (wakes_any _ HTab.out).mono ?_); rintro e w2 ⟨rfl, b2⟩))
    go_ret
    exact ⟨rfl, below_two bw b2⟩
  exact absurd ⟨by omega, by omega⟩ hl2

theorem tab_of {W : World} (h : laidMet Tryd.prog Rows.wholeTextsRow.laid W) : Tab W := by
  refine ⟨?_, ?_⟩
  · first | exact powers_tab (laidMet_drop 0 h) (by decide +kernel) | exact powers_tab (laidMet_drop 1 h) (by decide +kernel) | exact powers_tab (laidMet_drop 2 h) (by decide +kernel) | exact powers_tab (laidMet_drop 3 h) (by decide +kernel) | exact powers_tab (laidMet_drop 4 h) (by decide +kernel) | exact powers_tab (laidMet_drop 5 h) (by decide +kernel) | exact powers_tab (laidMet_drop 6 h) (by decide +kernel) | exact powers_tab (laidMet_drop 7 h) (by decide +kernel) | exact powers_tab (laidMet_drop 8 h) (by decide +kernel) | exact powers_tab (laidMet_drop 9 h) (by decide +kernel) | exact powers_tab (laidMet_drop 10 h) (by decide +kernel) | exact powers_tab (laidMet_drop 11 h) (by decide +kernel) | exact powers_tab (laidMet_drop 12 h) (by decide +kernel) | exact powers_tab (laidMet_drop 13 h) (by decide +kernel)
  · first | exact err_tab (laidMet_drop 0 h) (by decide +kernel) | exact err_tab (laidMet_drop 1 h) (by decide +kernel) | exact err_tab (laidMet_drop 2 h) (by decide +kernel) | exact err_tab (laidMet_drop 3 h) (by decide +kernel) | exact err_tab (laidMet_drop 4 h) (by decide +kernel) | exact err_tab (laidMet_drop 5 h) (by decide +kernel) | exact err_tab (laidMet_drop 6 h) (by decide +kernel) | exact err_tab (laidMet_drop 7 h) (by decide +kernel) | exact err_tab (laidMet_drop 8 h) (by decide +kernel) | exact err_tab (laidMet_drop 9 h) (by decide +kernel) | exact err_tab (laidMet_drop 10 h) (by decide +kernel) | exact err_tab (laidMet_drop 11 h) (by decide +kernel) | exact err_tab (laidMet_drop 12 h) (by decide +kernel) | exact err_tab (laidMet_drop 13 h) (by decide +kernel)

set_option maxRecDepth 100000 in
theorem lifted (os : Os) (started : os.Started) (H : Type) (enc : TypeId × Value → H) :
    ReturnsInHanded {} Tryd.checked os 6 .any (fun w args => (Rows.wholeTextsSpec.pre enc Tryd.prog Tryd.f6 [] false w args ∧ laidMetH Tryd.prog Rows.wholeTextsRow.laid w) ∧ sizedMet enc Tryd.prog Tryd.f6 (OpenSpec.ofChange Rows.wholeTextsSpec) false w args)
      (Rows.wholeTextsSpec.post enc Tryd.prog Tryd.f6 false true false false) := by
  refine returnsInHanded_of_change_and (C := Tryd.checked) (X := fun w _ => laidMetH Tryd.prog Rows.wholeTextsRow.laid w) (fun _ _ _ hh h => h.of_heap hh) own started (by kernel_rfl) Tryd.func6
    (ChangeSpec.witness_shaped (enc := enc) (C := Tryd.checked) (os := os) (X := fun w _ => laidMetH Tryd.prog Rows.wholeTextsRow.laid w) false (World.laidAll Tryd.prog os Rows.wholeTextsRow.laid) #[.agg #[.bool false, .slice none 0 0], .agg #[.bool false, .slice none 0 0]] 8 (World.laidAll_os _ _ _)
      (World.shaped_of_ZipB (by kernel_rfl) (by kernel_rfl)) (by kernel_rfl) (by kernel_rfl) (by kernel_rfl)
      (by rw [MakeChecks.laidMetH_plain _ _ _ (by kernel_rfl)]; exact laidMet_laidAll _ (by kernel_rfl) (by kernel_rfl))) ?_
  intro W base args ds gs before hval0 hW _ _ hL _
  have hval : ∀ (j : Nat) t v, Tryd.f6.params[j]? = some t → args[j]? = some v → Value.okWide Tryd.prog W .any base t v := hval0
  have hW' := hW
  obtain ⟨p, q, hA0, hV, rfl, hfz, hnd⟩ := hW
  have hA : DataW.TrodAll enc Tryd.prog W 0 (fun _ => true) true Tryd.f6.params.toList args.toList ds p := hA0
  rw [Tryd.params6] at hA hval
  obtain ⟨v0, vs0, d0, ds0, p0, q0, hargs, rfl, rfl, h0, r0⟩ := trodAll_cons hA
  obtain ⟨v1, vs1, d1, ds1, p1, q1, rfl, rfl, rfl, h1, r1⟩ := trodAll_cons r0
  obtain ⟨rfl, rfl, rfl⟩ := trodAll_nil r1
  obtain rfl : args = #[v0, v1] := by cases args; simp_all
  obtain ⟨rfl, rfl⟩ := trodVars_none hV
  obtain ⟨b0, a0, len0, cap0, z0, rfl, i0, hc0, hm0⟩ := open_zint (hval 0 25 v0 rfl rfl) h0
  obtain ⟨b1, a1, len1, cap1, z1, rfl, i1, hc1, hm1⟩ := open_zint (hval 1 25 v1 rfl rfl) h1
  clear hA0 hval0
  simp only [List.append_nil] at hW'
  rw [MakeChecks.laidMetH_plain _ _ _ (by kernel_rfl)] at hL
  refine (walk b0 a0 len0 cap0 z0 b1 a1 len1 cap1 z1 W i0 hc0 hm0 i1 hc1 hm1 (tab_of hL)).mono fun e W' ⟨he, bel⟩ => ?_
  subst he
  exact ⟨_, rfl, _, _, _, [], _, [], hW', trodAll_mk1 (shut_bool Tryd.underlying4 _), (trodAll_cons_mk (Below.trod laidOut (by kernel_rfl) (of_decide_eq_true (by kernel_rfl)) h0 bel (places_lt h0)) (trodAll_cons_mk (Below.trod laidOut (by kernel_rfl) (of_decide_eq_true (by kernel_rfl)) h1 bel (places_lt h1)) trodAll_mk0)), rfl, bel.frame _, fun h => by cases h⟩

theorem over : Rows.wholeTextsRow.holds Tryd.pinned (OpenSpec.ofChange Rows.wholeTextsSpec) :=
  OpenClaim.holds_of_wide 6 Tryd.f6 rfl rfl rfl rfl rfl rfl rfl ⟨rfl, rfl, rfl, rfl, rfl⟩ rfl rfl rfl rfl rfl (by kernel_rfl) Tryd.func6 (by kernel_rfl)
    (of_decide_eq_true (by kernel_rfl)) (by unfold Func.isWrapper; first | (rw [if_pos (by decide +kernel)]; kernel_rfl) | (rw [if_neg (by decide +kernel)]; exact ⟨rfl, rfl⟩))
    (fun os started H enc _ => lifted os started H enc)

theorem proved : Rows.WholeTextsCardSaid :=
  Claim7.holds_tied_plain_at .later [] Rows.wholeTextsCard.laidKinds true Rows.wholeTextsCard.stood.harness Rows.wholeTextsCard.stood.looks
    over (fun _ h => by cases h) (by kernel_rfl) (fun _ h => by cases h) wholeTexts_row_tie rfl ⟨rfl, rfl⟩ (by kernel_rfl) rfl
    (fun f fn hf hfn => by
      obtain rfl : f = 6 := Option.some.inj ((show Tryd.prog.funcNamed Rows.wholeTextsRow.func = some 6 by kernel_rfl).symm.trans hf) |>.symm
      obtain rfl : fn = Tryd.f6 := (Option.some.inj (Tryd.func6.symm.trans hfn)).symm
      exact ⟨by kernel_rfl, fun j t ht => by
        have hm : t ∈ Tryd.f6.params.toList := by simpa using Array.mem_of_getElem? ht
        have hall : (Tryd.f6.params.toList.all fun u => !Tryd.prog.wantsStandIn u) = true := by kernel_rfl
        exact (show Tryd.prog.wantsStandIn t = false by simpa using List.all_eq_true.1 hall t hm)⟩)
    (by kernel_rfl)

end Go.Proofs.YtgdchljbjnhchaaDoor.lawWholeTexts
