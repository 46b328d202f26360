/- LexKinds is true at every input: each token's text is of its kind; a row of two texts with a newline between has both ones' tokens. Conditions: the given statement's own (the tables of kinds read as the card ties them). -/
import Derived.Test.YthjnepfpohmpkaaDoorM3
import Derived.Test.YthjnepfpohmpkaaDoorCards
import Derived.Test.YthjnepfpohmpkaaDoorTie
import Derived.ChangeMaps5
import Derived.Lay
import Derived.SevenTiedAt
/- LexKinds is true at every input: each token's text is of its kind; a row of two texts with a newline between has both ones' tokens. Conditions: the given statement's own (the tables of kinds read as the card ties them). -/
namespace Go.Proofs.YthjnepfpohmpkaaDoor.lawLexKinds
open Go.ChangeShapes Go.WideShapes Go.ChangeAt Go.RowKit Limb
set_option linter.unusedVariables false
theorem mem_take2 {l : List Nat} {n x : Nat} (h : x ∈ l.take n) : x ∈ l := List.mem_of_mem_take h
theorem lexS_mem {c k n : Nat} {r s : List Nat} (h : lexS c r = .tok k s n) : ∀ x ∈ s, x ∈ c :: r := by
 intro x hx
 unfold lexS at h
 split at h
 · cases h
 · split at h
   · cases h
   · split at h
     · split at h
       · cases h
       · cases h; exact mem_take2 hx
     · split at h
       · split at h
         · cases h
         · cases h; exact mem_take2 hx
       · split at h
         · split at h
           · cases h
           · cases h; exact List.mem_cons_of_mem _ (mem_take2 hx)
         · split at h
           · cases h
             obtain rfl : x = c := by simpa using hx
             exact List.mem_cons_self
           · cases h
theorem lexR_mem : ∀ (f a : Nat) (l : List Nat) (ts : List Tk), lexR f a l = .ok ts → ∀ t ∈ ts, ∀ x ∈ t.2.1, x ∈ l
 | 0, _, _, _, h => by cases h
 | f + 1, a, [], ts, h => by cases h; simp
 | f + 1, a, c :: r, ts, h => by
  unfold lexR at h
  cases e : lexS c r with
  | bad => rw [e] at h; cases h
  | skip n =>
   rw [e] at h
   intro t ht x hx
   exact List.mem_of_mem_drop (lexR_mem f _ _ ts h t ht x hx)
  | tok k s n =>
   rw [e] at h
   dsimp only at h
   cases e2 : lexR f (a + n) ((c :: r).drop n) with
   | bad p => rw [e2] at h; cases h
   | ok us =>
    rw [e2] at h
    cases h
    intro t ht x hx
    rcases List.mem_cons.1 ht with rfl | ht
    · exact lexS_mem e x hx
    · exact List.mem_of_mem_drop (lexR_mem f _ _ us e2 t ht x hx)
theorem tok_bytes {s : ByteArray} {ts : List Tk} (h : lexT (bytesOf s) = .ok ts) {t : Tk} (ht : t ∈ ts) : Bytes t.2.1 := fun x hx => bytes_bytesOf s x (lexR_mem _ _ _ _ h t ht x hx)
theorem lexV_len {l : List Nat} {ts : List Tk} {E P : Int} (h4 : ¬ 4000 < l.length) (h : lexV l = (ts, E, P)) : (∃ p, lexT l = .bad p ∧ ts = [] ∧ E = 11 ∧ P = (p : Int)) ∨ (lexT l = .ok ts ∧ E = 0 ∧ P = 0) := by
 unfold lexV at h
 rw [if_neg h4] at h
 cases e : lexT l with
 | bad p => rw [e] at h; cases h; exact .inl ⟨p, rfl, rfl, rfl, rfl⟩
 | ok us => rw [e] at h; cases h; exact .inr ⟨rfl, rfl, rfl⟩
theorem ts_kind {l : List Nat} {ts : List Tk} {E P : Int} (h4 : ¬ 4000 < l.length) (h : lexV l = (ts, E, P)) {t : Tk} (ht : t ∈ ts) : okTk t = true ∧ lexT l = .ok ts := by
 rcases lexV_len h4 h with ⟨p, _, rfl, _⟩ | ⟨h1, _⟩
 · cases ht
 · exact ⟨lexR_kind _ _ _ _ h1 t ht, h1⟩
theorem fitsTk (k : Int) (s : ByteArray) (a : Int) : Many Tryd.prog 36 (tkC k s a).size ∧ (#[.int .i64 0, .string ⟨#[]⟩, .int .i64 0] : Array Value).size = (tkC k s a).size ∧ ∀ v ∈ tkC k s a, v.oneCell' = true := ⟨many3 k s a, rfl, by simp [Value.oneCell']⟩
theorem lexR_bad : ∀ (f a : Nat) (l : List Nat) (p : Nat), l.length < f → lexR f a l = .bad p → p ≤ a + l.length
 | 0, _, _, _, h, _ => absurd h (by omega)
 | f + 1, a, [], p, _, h => by cases h
 | f + 1, a, c :: r, p, hf, h => by
  rw [List.length_cons] at hf ⊢
  unfold lexR at h
  cases e : lexS c r with
  | bad => rw [e] at h; cases h; omega
  | skip n =>
   rw [e] at h
   have hl := lexS_len.1 n e
   have := lexR_bad f _ _ p (by rw [List.length_drop, List.length_cons]; omega) h
   rw [List.length_drop, List.length_cons] at this
   omega
  | tok k s n =>
   rw [e] at h
   dsimp only at h
   have hl := lexS_len.2 k s n e
   cases e2 : lexR f (a + n) ((c :: r).drop n) with
   | ok us => rw [e2] at h; cases h
   | bad q =>
    rw [e2] at h
    cases h
    have := lexR_bad f _ _ p (by rw [List.length_drop, List.length_cons]; omega) e2
    rw [List.length_drop, List.length_cons] at this
    omega
theorem bad_at {l : List Nat} {p : Nat} (h : lexT l = .bad p) : p ≤ l.length := by
 have := lexR_bad _ _ _ _ (Nat.lt_succ_self _) h
 omega
theorem lexR_cnt : ∀ (f a : Nat) (l : List Nat) (ts : List Tk), lexR f a l = .ok ts → ts.length ≤ l.length ∧ ∀ t ∈ ts, t.2.2 ≤ a + l.length
 | 0, _, _, _, h => by cases h
 | f + 1, a, [], ts, h => by cases h; simp
 | f + 1, a, c :: r, ts, h => by
  rw [List.length_cons]
  unfold lexR at h
  cases e : lexS c r with
  | bad => rw [e] at h; cases h
  | skip n =>
   rw [e] at h
   have hl := lexS_len.1 n e
   have ih := lexR_cnt f _ _ ts h
   rw [List.length_drop, List.length_cons] at ih
   exact ⟨by omega, fun t ht => by have := ih.2 t ht; omega⟩
  | tok k s n =>
   rw [e] at h
   dsimp only at h
   have hl := lexS_len.2 k s n e
   cases e2 : lexR f (a + n) ((c :: r).drop n) with
   | bad p => rw [e2] at h; cases h
   | ok us =>
    rw [e2] at h
    cases h
    have ih := lexR_cnt f _ _ us e2
    rw [List.length_drop, List.length_cons] at ih
    refine ⟨by rw [List.length_cons]; omega, fun t ht => ?_⟩
    rcases List.mem_cons.1 ht with rfl | ht
    · show a ≤ _; omega
    · have := ih.2 t ht; omega
theorem toks_len {l : List Nat} {ts : List Tk} (h : lexT l = .ok ts) : ts.length ≤ l.length := (lexR_cnt _ _ _ _ h).1
theorem tok_at {l : List Nat} {ts : List Tk} (h : lexT l = .ok ts) {t : Tk} (ht : t ∈ ts) : t.2.2 ≤ l.length := by have := (lexR_cnt _ _ _ _ h).2 t ht; omega
set_option maxHeartbeats 8000000 in
set_option maxRecDepth 100000 in
theorem walk (s_s : ByteArray) (s_t : ByteArray) (w : World) (z_s : s_s.size ≤ maxLen) (y_s : s_s.size ≤ 140737488351232) (z_t : s_t.size ≤ maxLen) (y_t : s_t.size ≤ 140737488351232) (HT : XTab w) :
 Calls Tryd.prog 5 #[.string s_s, .string s_t] w fun e w' => e = .returned (.bool true) ∧ Below w.heap.size w w' := by
 have HT0 := Lib.hid HT
 clear HT
 have bw := bel_refl w
 have HLs := Lib.hid (length_bytesOf s_s)
 have HLt := Lib.hid (length_bytesOf s_t)
 by_cases h30 : 3000 < s_s.size + s_t.size
 · have hgt : (3000 : Int) < (s_s.size : Int) + (s_t.size : Int) := by omega
   go_enter Tryd.func5, Tryd.ntmps5
   go_wp2_with fail
   refine (wakes_any w (Lib.hid (HT0.out.below bw))).mono ?_
   rintro e w1 ⟨rfl, bn⟩
   replace bw := below_two bw bn
   clear bn
   go_wp2
   go_ret
   exact ⟨rfl, bw⟩
 · have hgt : ¬ ((3000 : Int) < (s_s.size : Int) + (s_t.size : Int)) := by omega
   obtain ⟨ta, E, Pp, hV⟩ : ∃ ts E P, lexV (bytesOf s_s) = (ts, E, P) := ⟨_, _, _, rfl⟩
   have HV := Lib.hid hV
   obtain ⟨tb, F, Qq, hV2⟩ : ∃ ts E P, lexV (bytesOf s_t) = (ts, E, P) := ⟨_, _, _, rfl⟩
   have HV2 := Lib.hid hV2
   clear hV hV2
   go_enter Tryd.func5, Tryd.ntmps5
   go_wp2_with fail
   refine (lkTokens_c s_s (by omega) w (HT0.out.below bw) ta (E) (Pp) HV.out).mono ?_
   rintro e w1 ⟨A_a, n_a, c_a, rfl, h_ta, bn⟩
   replace bw := below_two bw bn
   clear bn
   have HU_e := Lib.hid (fitsF (E) (Pp))
   have h_re := rowA_new w1 26 (fltC (E) (Pp))
   have bn := below_new w1 (.cells (fltC (E) (Pp)) 26)
   replace h_ta := h_ta.below bn
   replace bw := below_two bw bn
   clear bn
   go_wp2_with (refine wpList_storeNew (by rfl) _ _ _ (by rfl) _ _ _ (by rfl) (by rfl) (by assumption) ?_)
   generalize w1.alloc (.cells (fltC (E) (Pp)) 26) = w2 at *
   obtain ⟨q_e, eg⟩ : ∃ g, g = w1.heap.size := ⟨_, rfl⟩
   rw [← eg] at h_re ⊢
   clear eg
   refine (lkTokens_c s_t (by omega) w2 (HT0.out.below bw) tb (F) (Qq) HV2.out).mono ?_
   rintro e w3 ⟨A_b, n_b, c_b, rfl, h_tb, bn⟩
   replace h_ta := h_ta.below bn
   replace h_re := h_re.below bn
   replace bw := below_two bw bn
   clear bn
   have HU_f := Lib.hid (fitsF (F) (Qq))
   have h_rf := rowA_new w3 26 (fltC (F) (Qq))
   have bn := below_new w3 (.cells (fltC (F) (Qq)) 26)
   replace h_ta := h_ta.below bn
   replace h_re := h_re.below bn
   replace h_tb := h_tb.below bn
   replace bw := below_two bw bn
   clear bn
   go_wp2_with (refine wpList_storeNew (by rfl) _ _ _ (by rfl) _ _ _ (by rfl) (by rfl) (by assumption) ?_)
   generalize w3.alloc (.cells (fltC (F) (Qq)) 26) = w4 at *
   obtain ⟨q_f, eg⟩ : ∃ g, g = w3.heap.size := ⟨_, rfl⟩
   rw [← eg] at h_rf ⊢
   clear eg
   have HTn : Hid (NTab w4) := (HT0.out.below bw).2
   have HTk : Hid (KTab w4) := (HT0.out.below bw).1
   have Hta := Lib.hid h_ta
   have h4a : Hid (¬ 4000 < (bytesOf s_s).length) := by show ¬ _; rw [HLs.out]; omega
   have h4b : Hid (¬ 4000 < (bytesOf s_t).length) := by show ¬ _; rw [HLt.out]; omega
   go_loopw [9] (fun iv wr => ∃ i : Nat, i ≤ n_a ∧ iv = .int .i64 (i : Int) ∧ w4 = wr) (fun iv _ => n_a - (intOf iv).toNat)
   case atStart => exact ⟨0, Nat.zero_le _, rfl, rfl⟩
   case round =>
    obtain ⟨i, hi, rfl, rfl⟩ := hrel
    by_cases hlt : i < n_a
    · obtain ⟨t, ht⟩ : ∃ t, ta[i]? = some t := ⟨ta[i]'(by have := Hta.out.1; omega), List.getElem?_eq_getElem _⟩
      obtain ⟨hok, hlx⟩ := ts_kind h4a.out HV.out (List.mem_of_getElem? ht)
      have hby := tok_bytes hlx (List.mem_of_getElem? ht)
      obtain ⟨g, ea, hg, hc, hI⟩ := Hta.out.at ht
      subst ea
      obtain ⟨kk, tx, pl⟩ := t
      dsimp only at hby hok
      obtain ⟨X, hX⟩ : ∃ X, strOf tx = X := ⟨_, rfl⟩
      have HX : Hid (bytesOf X = tx) := by show _ = _; rw [← hX]; exact bytesOf_strOf hby
      have hXs : X.size = tx.length := by rw [← length_bytesOf, HX.out]
      have kc1 : w4.cell? ⟨g, i * 3 + 1, none⟩ = some (.string X) := by have h : w4.cell? ⟨g, i * 3 + 1, none⟩ = some (.string (strOf tx)) := hI 1 _ rfl; rw [hX] at h; exact h
      have kc0 : w4.cell? ⟨g, i * 3 + 0, none⟩ = some (.int .i64 (kk : Int)) := hI 0 _ rfl
      rw [Nat.add_zero] at kc0
      have hn9 : n_a ≤ 9223372036854775807 := Nat.le_trans Hta.out.2.1 hc
      clear hI hby hlx ht hX
      by_cases hk : kk = 1
      · have hwd : isWdB tx = true := by subst hk; exact hok
        have hl16 : tx.length ≤ 200 := by
         cases tx with
         | nil => cases hwd
         | cons c r => unfold isWdB at hwd; simp only [Bool.and_eq_true, decide_eq_true_eq] at hwd; rw [List.length_cons]; omega
        clear hok
        by_cases how : ownW tx = true
        · have hm : tx = [117, 110, 105, 116] ∨ tx = [115, 111, 117, 114, 99, 101] ∨ tx = [99, 111, 118] ∨ tx = [108, 101, 116] ∨ tx = [111, 117, 116, 112, 117, 116] ∨ tx = [105, 110] := by simpa [ownW] using how
          have HN : Hid (isNam (bytesOf X) = false) := by show _ = _; unfold isNam; rw [HX.out, how, Bool.not_true, Bool.and_false]
          clear how hwd
          rcases hm with hm | hm | hm | hm | hm | hm
          · subst hk
            have kc0b : w4.cell? ⟨g, i * 3, none⟩ = some (.int .i64 1) := kc0
            clear kc0
            have f0 : (X.toList == ([117, 110, 105, 116] : List UInt8)) = true := (own_eq X [117, 110, 105, 116] (by decide)).trans (by rw [HX.out, hm]; decide)
            clear hm
            as_aux_lemma =>
             go_wp2_with (go_at_call 11; (with_reducible refine (lkIsName_c X (by omega) _ HTn.out false HN.out).mono ?_); rintro e wx ⟨rfl, rfl⟩)
             exact ⟨⟨i + 1, by omega, by go_num, by first | rfl | trivial⟩, by simp [intOf]; omega⟩
          · subst hk
            have kc0b : w4.cell? ⟨g, i * 3, none⟩ = some (.int .i64 1) := kc0
            clear kc0
            have f0 : (X.toList == ([117, 110, 105, 116] : List UInt8)) = false := (own_eq X [117, 110, 105, 116] (by decide)).trans (by rw [HX.out, hm]; decide)
            have f1 : (X.toList == ([115, 111, 117, 114, 99, 101] : List UInt8)) = true := (own_eq X [115, 111, 117, 114, 99, 101] (by decide)).trans (by rw [HX.out, hm]; decide)
            clear hm
            as_aux_lemma =>
             go_wp2_with (go_at_call 11; (with_reducible refine (lkIsName_c X (by omega) _ HTn.out false HN.out).mono ?_); rintro e wx ⟨rfl, rfl⟩)
             exact ⟨⟨i + 1, by omega, by go_num, by first | rfl | trivial⟩, by simp [intOf]; omega⟩
          · subst hk
            have kc0b : w4.cell? ⟨g, i * 3, none⟩ = some (.int .i64 1) := kc0
            clear kc0
            have f0 : (X.toList == ([117, 110, 105, 116] : List UInt8)) = false := (own_eq X [117, 110, 105, 116] (by decide)).trans (by rw [HX.out, hm]; decide)
            have f1 : (X.toList == ([115, 111, 117, 114, 99, 101] : List UInt8)) = false := (own_eq X [115, 111, 117, 114, 99, 101] (by decide)).trans (by rw [HX.out, hm]; decide)
            have f2 : (X.toList == ([99, 111, 118] : List UInt8)) = true := (own_eq X [99, 111, 118] (by decide)).trans (by rw [HX.out, hm]; decide)
            clear hm
            as_aux_lemma =>
             go_wp2_with (go_at_call 11; (with_reducible refine (lkIsName_c X (by omega) _ HTn.out false HN.out).mono ?_); rintro e wx ⟨rfl, rfl⟩)
             exact ⟨⟨i + 1, by omega, by go_num, by first | rfl | trivial⟩, by simp [intOf]; omega⟩
          · subst hk
            have kc0b : w4.cell? ⟨g, i * 3, none⟩ = some (.int .i64 1) := kc0
            clear kc0
            have f0 : (X.toList == ([117, 110, 105, 116] : List UInt8)) = false := (own_eq X [117, 110, 105, 116] (by decide)).trans (by rw [HX.out, hm]; decide)
            have f1 : (X.toList == ([115, 111, 117, 114, 99, 101] : List UInt8)) = false := (own_eq X [115, 111, 117, 114, 99, 101] (by decide)).trans (by rw [HX.out, hm]; decide)
            have f2 : (X.toList == ([99, 111, 118] : List UInt8)) = false := (own_eq X [99, 111, 118] (by decide)).trans (by rw [HX.out, hm]; decide)
            have f3 : (X.toList == ([108, 101, 116] : List UInt8)) = true := (own_eq X [108, 101, 116] (by decide)).trans (by rw [HX.out, hm]; decide)
            clear hm
            as_aux_lemma =>
             go_wp2_with (go_at_call 11; (with_reducible refine (lkIsName_c X (by omega) _ HTn.out false HN.out).mono ?_); rintro e wx ⟨rfl, rfl⟩)
             exact ⟨⟨i + 1, by omega, by go_num, by first | rfl | trivial⟩, by simp [intOf]; omega⟩
          · subst hk
            have kc0b : w4.cell? ⟨g, i * 3, none⟩ = some (.int .i64 1) := kc0
            clear kc0
            have f0 : (X.toList == ([117, 110, 105, 116] : List UInt8)) = false := (own_eq X [117, 110, 105, 116] (by decide)).trans (by rw [HX.out, hm]; decide)
            have f1 : (X.toList == ([115, 111, 117, 114, 99, 101] : List UInt8)) = false := (own_eq X [115, 111, 117, 114, 99, 101] (by decide)).trans (by rw [HX.out, hm]; decide)
            have f2 : (X.toList == ([99, 111, 118] : List UInt8)) = false := (own_eq X [99, 111, 118] (by decide)).trans (by rw [HX.out, hm]; decide)
            have f3 : (X.toList == ([108, 101, 116] : List UInt8)) = false := (own_eq X [108, 101, 116] (by decide)).trans (by rw [HX.out, hm]; decide)
            have f4 : (X.toList == ([111, 117, 116, 112, 117, 116] : List UInt8)) = true := (own_eq X [111, 117, 116, 112, 117, 116] (by decide)).trans (by rw [HX.out, hm]; decide)
            clear hm
            as_aux_lemma =>
             go_wp2_with (go_at_call 11; (with_reducible refine (lkIsName_c X (by omega) _ HTn.out false HN.out).mono ?_); rintro e wx ⟨rfl, rfl⟩)
             exact ⟨⟨i + 1, by omega, by go_num, by first | rfl | trivial⟩, by simp [intOf]; omega⟩
          · subst hk
            have kc0b : w4.cell? ⟨g, i * 3, none⟩ = some (.int .i64 1) := kc0
            clear kc0
            have f0 : (X.toList == ([117, 110, 105, 116] : List UInt8)) = false := (own_eq X [117, 110, 105, 116] (by decide)).trans (by rw [HX.out, hm]; decide)
            have f1 : (X.toList == ([115, 111, 117, 114, 99, 101] : List UInt8)) = false := (own_eq X [115, 111, 117, 114, 99, 101] (by decide)).trans (by rw [HX.out, hm]; decide)
            have f2 : (X.toList == ([99, 111, 118] : List UInt8)) = false := (own_eq X [99, 111, 118] (by decide)).trans (by rw [HX.out, hm]; decide)
            have f3 : (X.toList == ([108, 101, 116] : List UInt8)) = false := (own_eq X [108, 101, 116] (by decide)).trans (by rw [HX.out, hm]; decide)
            have f4 : (X.toList == ([111, 117, 116, 112, 117, 116] : List UInt8)) = false := (own_eq X [111, 117, 116, 112, 117, 116] (by decide)).trans (by rw [HX.out, hm]; decide)
            have f5 : (X.toList == ([105, 110] : List UInt8)) = true := (own_eq X [105, 110] (by decide)).trans (by rw [HX.out, hm]; decide)
            clear hm
            as_aux_lemma =>
             go_wp2_with (go_at_call 11; (with_reducible refine (lkIsName_c X (by omega) _ HTn.out false HN.out).mono ?_); rintro e wx ⟨rfl, rfl⟩)
             exact ⟨⟨i + 1, by omega, by go_num, by first | rfl | trivial⟩, by simp [intOf]; omega⟩
        · have HN : Hid (isNam (bytesOf X) = true) := by show _ = _; unfold isNam; rw [HX.out, hwd, show ownW tx = false by simpa using how]; rfl
          clear how hwd
          subst hk
          have kc0b : w4.cell? ⟨g, i * 3, none⟩ = some (.int .i64 1) := kc0
          clear kc0
          as_aux_lemma =>
           go_wp2_with (go_at_call 11; (with_reducible refine (lkIsName_c X (by omega) _ HTn.out true HN.out).mono ?_); rintro e wx ⟨rfl, rfl⟩)
           exact ⟨⟨i + 1, by omega, by go_num, by first | rfl | trivial⟩, by simp [intOf]; omega⟩
      · by_cases hk2 : kk = 2
        · have HGd : Hid (litGood (bytesOf X) = true) := by show _ = _; rw [HX.out]; subst hk2; exact hok
          have hXl : X.size ≤ 400 := by have := (litGood_iff.1 HGd.out).2.1; rw [length_bytesOf] at this; exact this
          clear hok hk
          rename kk = 2 => hk
          subst hk
          have kc0b : w4.cell? ⟨g, i * 3, none⟩ = some (.int .i64 2) := kc0
          clear kc0
          as_aux_lemma =>
           go_wp2_with (go_at_call 13; (with_reducible refine (litGood_w X (by omega) _ HTk.out true HGd.out).mono ?_); rintro e wx ⟨rfl, rfl⟩)
           exact ⟨⟨i + 1, by omega, by go_num, by first | rfl | trivial⟩, by simp [intOf]; omega⟩
        · by_cases hk3 : kk = 3
          · have hx1 : X.size = 1 := by rw [hXs]; subst hk3; exact of_decide_eq_true hok
            clear hok hk hk2 hXs
            rename kk = 3 => hk
            subst hk
            have kc0b : w4.cell? ⟨g, i * 3, none⟩ = some (.int .i64 3) := kc0
            clear kc0
            as_aux_lemma =>
             go_wp2
             exact ⟨⟨i + 1, by omega, by go_num, by first | rfl | trivial⟩, by simp [intOf]; omega⟩
          · by_cases hk4 : kk = 4
            · have hx4 : 1 ≤ X.size ∧ X.size ≤ 200 := by rw [hXs]; subst hk4; have h : (decide (1 ≤ tx.length) && decide (tx.length ≤ 200)) = true := hok; simpa using h
              have hx1 : (1 : Int) ≤ (X.size : Int) := by omega
              have hx2 : (X.size : Int) ≤ 200 := by omega
              clear hx4
              clear hok hk hk2 hk3 hXs
              rename kk = 4 => hk
              subst hk
              have kc0b : w4.cell? ⟨g, i * 3, none⟩ = some (.int .i64 4) := kc0
              clear kc0
              as_aux_lemma =>
               go_wp2
               exact ⟨⟨i + 1, by omega, by go_num, by first | rfl | trivial⟩, by simp [intOf]; omega⟩
            · exfalso
              unfold okTk at hok
              dsimp only at hok
              rw [if_neg hk, if_neg hk2, if_neg hk3, if_neg hk4] at hok
              cases hok
    · obtain rfl : n_a = i := by omega
      clear hlt hi Hta
      obtain ⟨S2, hS2⟩ : ∃ S, s_s ++ (⟨#[10]⟩ : ByteArray) ++ s_t = S := ⟨_, rfl⟩
      have HS2 : Hid (bytesOf S2 = bytesOf s_s ++ 10 :: bytesOf s_t) := by show _ = _; rw [← hS2, bytesOf_append, bytesOf_append, List.append_assoc]; rfl
      have hS2s : S2.size = s_s.size + 1 + s_t.size := by rw [← length_bytesOf, HS2.out, List.length_append, List.length_cons, HLs.out, HLt.out]; omega
      have hcat1 : (s_s ++ (⟨#[10]⟩ : ByteArray)).size = s_s.size + 1 := by rw [ByteArray.size_append]; rfl
      have h4c : Hid (¬ 4000 < (bytesOf S2).length) := by show ¬ _; rw [length_bytesOf]; omega
      rcases lexV_len h4a.out HV.out with ⟨p, hp, rfl, rfl, rfl⟩ | ⟨hp, rfl, rfl⟩
      · have HV3 : Hid (lexV (bytesOf S2) = ([], 11, (p : Int))) := by show _ = _; exact lexV_bad h4c.out (by rw [HS2.out]; exact lexT_row_no hp)
        go_wp2_with fail
        try rw [hS2]
        refine (lkTokens_c S2 (by omega) w4 (HT0.out.below bw) [] (11) ((p : Int)) HV3.out).mono ?_
        rintro e w5 ⟨A_c, n_c, c_c, rfl, h_tc, bn⟩
        replace h_ta := h_ta.below bn
        replace h_re := h_re.below bn
        replace h_tb := h_tb.below bn
        replace h_rf := h_rf.below bn
        replace bw := below_two bw bn
        clear bn
        have HU_g := Lib.hid (fitsF (11) ((p : Int)))
        have h_rg := rowA_new w5 26 (fltC (11) ((p : Int)))
        have bn := below_new w5 (.cells (fltC (11) ((p : Int))) 26)
        replace h_ta := h_ta.below bn
        replace h_re := h_re.below bn
        replace h_tb := h_tb.below bn
        replace h_rf := h_rf.below bn
        replace h_tc := h_tc.below bn
        replace bw := below_two bw bn
        clear bn
        obtain rfl : n_c = 0 := h_tc.1
        have hf := fun W => equal_flt (e := 11) (a := (p : Int)) (e' := 11) (a' := (p : Int)) (b := true) (by simp) W
        have HMg := Lib.hid (manyF 11 (p : Int))
        have k0_e := h_re.cell (k := 0) (v := .int .i64 (11)) rfl
        have HI_e := Lib.hid h_re.inV
        have HI_g := Lib.hid h_rg.inV
        go_wp2_with (first | (refine wpList_loadV (by rfl) _ _ (by rfl) _ _ (by rfl) _ (by assumption) (by assumption) ?_) | (refine wpList_storeNew (by rfl) _ _ _ (by rfl) _ _ _ (by rfl) (by rfl) (by assumption) ?_))
        clear HI_e HI_g k0_e hf
        generalize w5.alloc (.cells (fltC (11) ((p : Int))) 26) = w6 at *
        obtain ⟨q_g, eg⟩ : ∃ g, g = w5.heap.size := ⟨_, rfl⟩
        rw [← eg] at h_rg ⊢
        clear eg
        refine (wakes_any w6 (Lib.hid (HT0.out.below bw))).mono ?_
        rintro e w7 ⟨rfl, bn⟩
        replace h_ta := h_ta.below bn
        replace h_re := h_re.below bn
        replace h_tb := h_tb.below bn
        replace h_rf := h_rf.below bn
        replace h_tc := h_tc.below bn
        replace h_rg := h_rg.below bn
        replace bw := below_two bw bn
        clear bn
        go_wp2
        go_ret
        exact ⟨by first | rfl | simp, bw⟩
      · rcases lexV_len h4b.out HV2.out with ⟨q, hq, rfl, rfl, rfl⟩ | ⟨hq, rfl, rfl⟩
        · have HV3 : Hid (lexV (bytesOf S2) = ([], 11, ((q : Int) + (s_s.size : Int) + 1))) := by show _ = _; exact (lexV_bad h4c.out (by rw [HS2.out]; exact lexT_row_bad hp hq)).trans (by rw [HLs.out]; first | rfl | (congr 2; omega))
          go_wp2_with fail
          try rw [hS2]
          refine (lkTokens_c S2 (by omega) w4 (HT0.out.below bw) [] (11) (((q : Int) + (s_s.size : Int) + 1)) HV3.out).mono ?_
          rintro e w5 ⟨A_c, n_c, c_c, rfl, h_tc, bn⟩
          replace h_ta := h_ta.below bn
          replace h_re := h_re.below bn
          replace h_tb := h_tb.below bn
          replace h_rf := h_rf.below bn
          replace bw := below_two bw bn
          clear bn
          have HU_g := Lib.hid (fitsF (11) (((q : Int) + (s_s.size : Int) + 1)))
          have h_rg := rowA_new w5 26 (fltC (11) (((q : Int) + (s_s.size : Int) + 1)))
          have bn := below_new w5 (.cells (fltC (11) (((q : Int) + (s_s.size : Int) + 1))) 26)
          replace h_ta := h_ta.below bn
          replace h_re := h_re.below bn
          replace h_tb := h_tb.below bn
          replace h_rf := h_rf.below bn
          replace h_tc := h_tc.below bn
          replace bw := below_two bw bn
          clear bn
          obtain rfl : n_c = 0 := h_tc.1
          have hql : q ≤ 3000 := by have h := bad_at hq; rw [HLt.out] at h; omega
          have hf := fun W => equal_flt (e := 11) (a := (q : Int) + (s_s.size : Int) + 1) (e' := 11) (a' := (q : Int) + (s_s.size : Int) + 1) (b := true) (by simp) W
          have HMg := Lib.hid (manyF 11 ((q : Int) + (s_s.size : Int) + 1))
          have k0_e := h_re.cell (k := 0) (v := .int .i64 (0)) rfl
          have k0_f := h_rf.cell (k := 0) (v := .int .i64 (11)) rfl
          have k1_f := h_rf.cell (k := 1) (v := .int .i64 ((q : Int))) rfl
          have HI_g := Lib.hid h_rg.inV
          go_wp2_with (first | (refine wpList_loadV (by rfl) _ _ (by rfl) _ _ (by rfl) _ (by assumption) (by assumption) ?_) | (refine wpList_storeNew (by rfl) _ _ _ (by rfl) _ _ _ (by rfl) (by rfl) (by assumption) ?_))
          clear HI_g k0_e k0_f k1_f hf
          generalize w5.alloc (.cells (fltC (11) (((q : Int) + (s_s.size : Int) + 1))) 26) = w6 at *
          obtain ⟨q_g, eg⟩ : ∃ g, g = w5.heap.size := ⟨_, rfl⟩
          rw [← eg] at h_rg ⊢
          clear eg
          refine (wakes_any w6 (Lib.hid (HT0.out.below bw))).mono ?_
          rintro e w7 ⟨rfl, bn⟩
          replace h_ta := h_ta.below bn
          replace h_re := h_re.below bn
          replace h_tb := h_tb.below bn
          replace h_rf := h_rf.below bn
          replace h_tc := h_tc.below bn
          replace h_rg := h_rg.below bn
          replace bw := below_two bw bn
          clear bn
          go_wp2
          go_ret
          exact ⟨by first | rfl | simp, bw⟩
        · have HV3 : Hid (lexV (bytesOf S2) = ((ta ++ shL (s_s.size + 1) tb), 0, 0)) := by show _ = _; exact lexV_ok h4c.out (by rw [HS2.out, ← HLs.out]; exact lexT_row_ok hp hq)
          go_wp2_with fail
          try rw [hS2]
          refine (lkTokens_c S2 (by omega) w4 (HT0.out.below bw) (ta ++ shL (s_s.size + 1) tb) (0) (0) HV3.out).mono ?_
          rintro e w5 ⟨A_c, n_c, c_c, rfl, h_tc, bn⟩
          replace h_ta := h_ta.below bn
          replace h_re := h_re.below bn
          replace h_tb := h_tb.below bn
          replace h_rf := h_rf.below bn
          replace bw := below_two bw bn
          clear bn
          have HU_g := Lib.hid (fitsF (0) (0))
          have h_rg := rowA_new w5 26 (fltC (0) (0))
          have bn := below_new w5 (.cells (fltC (0) (0)) 26)
          replace h_ta := h_ta.below bn
          replace h_re := h_re.below bn
          replace h_tb := h_tb.below bn
          replace h_rf := h_rf.below bn
          replace h_tc := h_tc.below bn
          replace bw := below_two bw bn
          clear bn
          have Hc : Hid (n_c = n_a + n_b) := by show _ = _; have h1 := h_tc.1; have h2 := h_ta.1; have h3 := h_tb.1; rw [List.length_append] at h1; unfold shL at h1; rw [List.length_map] at h1; omega
          have hsm : n_a ≤ 3000 ∧ n_b ≤ 3000 := by have h2 := h_ta.1; have h3 := h_tb.1; have h4 := toks_len hp; have h5 := toks_len hq; rw [HLs.out] at h4; rw [HLt.out] at h5; omega
          obtain ⟨hsa, hsb⟩ := hsm
          have ec : ((n_c : Int) != (n_a : Int) + (n_b : Int)) = false := by have := Hc.out; simp; omega
          have k0_e := h_re.cell (k := 0) (v := .int .i64 (0)) rfl
          have k0_f := h_rf.cell (k := 0) (v := .int .i64 (0)) rfl
          have k0_g := h_rg.cell (k := 0) (v := .int .i64 (0)) rfl
          go_wp2_with (refine wpList_storeNew (by rfl) _ _ _ (by rfl) _ _ _ (by rfl) (by rfl) (by assumption) ?_)
          clear k0_e k0_f k0_g ec
          generalize w5.alloc (.cells (fltC (0) (0)) 26) = w6 at *
          obtain ⟨q_g, eg⟩ : ∃ g, g = w5.heap.size := ⟨_, rfl⟩
          rw [← eg] at h_rg ⊢
          clear eg
          have Hta := Lib.hid h_ta
          have Htb := Lib.hid h_tb
          have Htc := Lib.hid h_tc
          have HBs := Lib.hid bw
          have hcc : n_c ≤ 6000 := by have := Hc.out; omega
          clear h_ta h_tb h_tc
          go_loopw [14] (fun iv wr => ∃ i : Nat, i ≤ n_c ∧ iv = .int .i64 (i : Int) ∧ Hid (Below w6.heap.size w6 wr)) (fun iv _ => n_c - (intOf iv).toNat)
          case atStart => exact ⟨0, Nat.zero_le _, rfl, Below.refl _ _⟩
          case round =>
           obtain ⟨i, hi, rfl, HB⟩ := hrel
           by_cases hlt : i < n_c
           · by_cases hla : i < n_a
             · obtain ⟨tc, htc⟩ : ∃ t, (ta ++ shL (s_s.size + 1) tb)[i]? = some t := ⟨(ta ++ shL (s_s.size + 1) tb)[i]'(by have := Htc.out.1; omega), List.getElem?_eq_getElem _⟩
               obtain ⟨gc, ec, hgc, hmc, hIc⟩ := (Htc.out.below HB.out).at htc
               subst ec
               have hi1 : (0 : Int) ≤ (i : Int) := by omega
               have ht : ta[i]? = some tc := by rw [← htc]; rw [List.getElem?_append_left (by have := Hta.out.1; omega)]
               obtain ⟨go, eo, hgo, hmo, hIo⟩ := (Hta.out.below HB.out).at ht
               subst eo
               have hlo : (i : Int) < (n_a : Int) := by omega
               have hKo := Lib.hid hIo
               have HMo := Lib.hid (many3 (tc.1 : Int) (strOf tc.2.1) (tc.2.2 : Int))
               have bz := below_new wr (.cells #[.int .i64 0, .string ⟨#[]⟩, .int .i64 0] 36)
               have HI_o : Hid (InV (wr.alloc (.cells #[.int .i64 0, .string ⟨#[]⟩, .int .i64 0] 36)) go (i * 3) (tkC (tc.1 : Int) (strOf tc.2.1) (tc.2.2 : Int))) := hIo.below hgo bz
               have HUz := Lib.hid (fitsTk 0 ⟨#[]⟩ 0)
               have HUt := Lib.hid (fitsTk (tc.1 : Int) (strOf tc.2.1) (tc.2.2 : Int))
               have HBw := Lib.hid (below_new wr (.cells (tkC (tc.1 : Int) (strOf tc.2.1) (tc.2.2 : Int)) 36))
               have h_rw := rowA_new wr 36 (tkC (tc.1 : Int) (strOf tc.2.1) (tc.2.2 : Int))
               have HIc : Hid (InV (wr.alloc (.cells (tkC (tc.1 : Int) (strOf tc.2.1) (tc.2.2 : Int)) 36)) gc (i * 3) (tkC (tc.1 : Int) (strOf tc.2.1) (tc.2.2 : Int))) := hIc.below hgc HBw.out
               have hgcS : Hid (gc < (wr.alloc (.cells (tkC (tc.1 : Int) (strOf tc.2.1) (tc.2.2 : Int)) 36)).heap.size) := Nat.lt_of_lt_of_le hgc HBw.out.size
               clear hIo hIc bz hKo
               go_wp2_with (first | (refine wpList_loadV (by rfl) _ _ (by rfl) _ _ (by rfl) _ (by assumption) (by assumption) ?_) | (refine wpList_storeNew (by rfl) _ _ _ (by rfl) _ _ _ (by rfl) (by rfl) (by assumption) ?_))
               clear HI_o HUz HUt HMo
               generalize wr.alloc (.cells (tkC (tc.1 : Int) (strOf tc.2.1) (tc.2.2 : Int)) 36) = wS at *
               obtain ⟨q_w, eg⟩ : ∃ g, g = wr.heap.size := ⟨_, rfl⟩
               rw [← eg] at h_rw ⊢
               clear eg
               refine region_free 6 0 [179, 180, 181, 182, 183, 184] ?aF1 (fun wx => Below wS.heap.size wS wx) (fun k vv wx => match k with
                | 0 => vv = .slice (some ⟨gc, 0, none⟩) n_c c_c
                | 1 => vv = .int .i64 (i : Int)
                | 2 => vv = .pointer (some ⟨gc, i * 3, none⟩)
                | 3 => vv = .agg (tkC (tc.1 : Int) (strOf tc.2.1) (tc.2.2 : Int))
                | 4 => vv = .agg (tkC (tc.1 : Int) (strOf tc.2.1) (tc.2.2 : Int))
                | _ => vv = .bool false)
                (fun k => false) (by kernel_rfl) ?haF1 rfl (by kernel_rfl) (by kernel_rfl) (fun _ _ _ _ _ h => h) ?hSb1 ?hPb1 ?hS1 ?hop1 ?hfin1
               case haF1 =>
                intro vals
                simp only [fillAll, List.getElem?_cons_zero, List.getElem?_cons_succ, Act.put, List.setIfInBounds_toArray, List.set_cons_zero, List.set_cons_succ]
                exact rfl
               case hSb1 => exact fun wx w2 hb hS => below_two hS hb
               case hPb1 =>
                intro k v wa wb hb h
                match k, h with
                | 0, h => exact h
                | 1, h => exact h
                | 2, h => exact h
                | 3, h => exact h
                | 4, h => exact h
                | _ + 5, h => exact h
               case hS1 => exact (Below.refl _ _).drew
               case hop1 =>
                refine .cons (k := 0) ?_ (.cons (k := 1) ?_ (.cons (k := 2) ?_ (.cons (k := 3) ?_ (.cons (k := 4) ?_ (.cons (k := 5) ?_ (.nil))))))
                all_goals intro vals wr hS hd KC hK
                all_goals (show Oper.wp _ _ _ _ _ _; dsimp only)
                · go_simp
                  refine hK _ _ rfl (Below.refl _ _) (by first | rfl | simp) (fun h => by cases h)
                · go_simp
                  refine hK _ _ rfl (Below.refl _ _) (by first | rfl | simp) (fun h => by cases h)
                · have d0 : vals 0 = _ := hd 0 (by decide +kernel)
                  have d1 : vals 1 = _ := hd 1 (by decide +kernel)
                  rw [d0, d1]
                  go_simp
                  refine hK _ _ rfl (Below.refl _ _) (by first | rfl | simp) (fun h => by cases h)
                · have d2 : vals 2 = _ := hd 2 (by decide +kernel)
                  rw [d2]
                  refine wp_loadV 36 _ rfl gc (i * 3) rfl (tkC (tc.1 : Int) (strOf tc.2.1) (tc.2.2 : Int)) (Lib.hid (HIc.out.below hgcS.out hS)) (Lib.hid (many3 _ _ _)) ?_
                  refine hK _ _ rfl (Below.refl _ _) (by first | rfl | simp) (fun h => by cases h)
                · refine wp_loadV 36 _ rfl q_w 0 rfl (tkC (tc.1 : Int) (strOf tc.2.1) (tc.2.2 : Int)) (Lib.hid (h_rw.below hS).inV) (Lib.hid (many3 _ _ _)) ?_
                  refine hK _ _ rfl (Below.refl _ _) (by first | rfl | simp) (fun h => by cases h)
                · have d3 : vals 3 = _ := hd 3 (by decide +kernel)
                  have d4 : vals 4 = _ := hd 4 (by decide +kernel)
                  rw [d3, d4]
                  have heq := fun W => equal_tk (k := (tc.1 : Int)) (k' := (tc.1 : Int)) (s := strOf tc.2.1) (s' := strOf tc.2.1) (a := (tc.2.2 : Int)) (a' := (tc.2.2 : Int)) (b := true) (by simp) W
                  go_simp
                  refine hK _ _ rfl (Below.refl _ _) (by first | rfl | simp) (fun h => by cases h)
               case hfin1 =>
                intro vals wr hS hP hne
                have ez_5 : vals 5 = _ := hP 5 (by decide)
                try dsimp only
                rw [ez_5]
                refine wpAny_done (by kernel_rfl) ?_ _
                have HB2 := Lib.hid (below_two (below_two HB.out HBw.out) hS)
                clear hS hP hne
                go_wp2
                exact ⟨⟨i + 1, by omega, by go_num, HB2⟩, by simp [intOf]; omega⟩
             · obtain ⟨tc, htc⟩ : ∃ t, (ta ++ shL (s_s.size + 1) tb)[i]? = some t := ⟨(ta ++ shL (s_s.size + 1) tb)[i]'(by have := Htc.out.1; omega), List.getElem?_eq_getElem _⟩
               obtain ⟨gc, ec, hgc, hmc, hIc⟩ := (Htc.out.below HB.out).at htc
               subst ec
               have hi1 : (0 : Int) ≤ (i : Int) := by omega
               obtain ⟨j, hj⟩ : ∃ j, i = n_a + j := ⟨i - n_a, by omega⟩
               have hjb : j < n_b := by have := Hc.out; omega
               obtain ⟨tt, hto⟩ : ∃ t, tb[j]? = some t := ⟨tb[j]'(by have := Htb.out.1; omega), List.getElem?_eq_getElem _⟩
               have etc : tc = (tt.1, tt.2.1, tt.2.2 + (s_s.size + 1)) := by
                have h2 : (ta ++ shL (s_s.size + 1) tb)[i]? = (shL (s_s.size + 1) tb)[j]? := by rw [List.getElem?_append_right (by have := Hta.out.1; omega)]; congr 1; have := Hta.out.1; omega
                rw [htc] at h2
                unfold shL at h2
                rw [List.getElem?_map, hto] at h2
                simpa using h2
               subst etc
               obtain ⟨go, eo, hgo, hmo, hIo⟩ := (Htb.out.below HB.out).at hto
               subst eo
               have hlo : ¬ ((i : Int) < (n_a : Int)) := by omega
               have hij : (i : Int) - (n_a : Int) = (j : Int) := by omega
               have hpl : tt.2.2 ≤ 3000 := by have h := tok_at hq (List.mem_of_getElem? hto); rw [HLt.out] at h; omega
               have hKo := Lib.hid hIo
               have HMo := Lib.hid (many3 (tt.1 : Int) (strOf tt.2.1) (tt.2.2 : Int))
               clear hj
               have bz := below_new wr (.cells #[.int .i64 0, .string ⟨#[]⟩, .int .i64 0] 36)
               have HI_o : Hid (InV (wr.alloc (.cells #[.int .i64 0, .string ⟨#[]⟩, .int .i64 0] 36)) go (j * 3) (tkC (tt.1 : Int) (strOf tt.2.1) (tt.2.2 : Int))) := hIo.below hgo bz
               have HUz := Lib.hid (fitsTk 0 ⟨#[]⟩ 0)
               have HUt := Lib.hid (fitsTk (tt.1 : Int) (strOf tt.2.1) (tt.2.2 : Int))
               have h_ro := rowA_new wr 36 (tkC (tt.1 : Int) (strOf tt.2.1) (tt.2.2 : Int))
               have ko2 := h_ro.cell (k := 2) (v := .int .i64 (tt.2.2 : Int)) rfl
               have fo2 := h_ro.free 2
               have hIc2 : InV wr gc (i * 3) (tkC (tt.1 : Int) (strOf tt.2.1) ((tt.2.2 : Int) + ((s_s.size : Int) + 1))) := by have h := hIc; unfold tkV at h; dsimp only at h; rw [show ((tt.2.2 + (s_s.size + 1) : Nat) : Int) = (tt.2.2 : Int) + ((s_s.size : Int) + 1) by omega] at h; exact h
               have HBw := Lib.hid (below_new wr (.cells (tkC (tt.1 : Int) (strOf tt.2.1) ((tt.2.2 : Int) + ((s_s.size : Int) + 1))) 36))
               have h_rw := rowA_new wr 36 (tkC (tt.1 : Int) (strOf tt.2.1) ((tt.2.2 : Int) + ((s_s.size : Int) + 1)))
               have HIc : Hid (InV (wr.alloc (.cells (tkC (tt.1 : Int) (strOf tt.2.1) ((tt.2.2 : Int) + ((s_s.size : Int) + 1))) 36)) gc (i * 3) (tkC (tt.1 : Int) (strOf tt.2.1) ((tt.2.2 : Int) + ((s_s.size : Int) + 1)))) := hIc2.below hgc HBw.out
               have hgcS : Hid (gc < (wr.alloc (.cells (tkC (tt.1 : Int) (strOf tt.2.1) ((tt.2.2 : Int) + ((s_s.size : Int) + 1))) 36)).heap.size) := Nat.lt_of_lt_of_le hgc HBw.out.size
               clear hIo hIc hIc2 bz hKo h_ro
               go_wp2_with (first | (refine wpList_loadV (by rfl) _ _ (by rfl) _ _ (by rfl) _ (by assumption) (by assumption) ?_) | (refine wpList_storeNew (by rfl) _ _ _ (by rfl) _ _ _ (by rfl) (by rfl) (by assumption) ?_))
               clear HI_o HUz HUt HMo ko2 fo2
               generalize wr.alloc (.cells (tkC (tt.1 : Int) (strOf tt.2.1) ((tt.2.2 : Int) + ((s_s.size : Int) + 1))) 36) = wS at *
               obtain ⟨q_w, eg⟩ : ∃ g, g = wr.heap.size := ⟨_, rfl⟩
               rw [← eg] at h_rw ⊢
               clear eg
               refine region_free 6 0 [179, 180, 181, 182, 183, 184] ?aF2 (fun wx => Below wS.heap.size wS wx) (fun k vv wx => match k with
                | 0 => vv = .slice (some ⟨gc, 0, none⟩) n_c c_c
                | 1 => vv = .int .i64 (i : Int)
                | 2 => vv = .pointer (some ⟨gc, i * 3, none⟩)
                | 3 => vv = .agg (tkC (tt.1 : Int) (strOf tt.2.1) ((tt.2.2 : Int) + ((s_s.size : Int) + 1)))
                | 4 => vv = .agg (tkC (tt.1 : Int) (strOf tt.2.1) ((tt.2.2 : Int) + ((s_s.size : Int) + 1)))
                | _ => vv = .bool false)
                (fun k => false) (by kernel_rfl) ?haF2 rfl (by kernel_rfl) (by kernel_rfl) (fun _ _ _ _ _ h => h) ?hSb2 ?hPb2 ?hS2 ?hop2 ?hfin2
               case haF2 =>
                intro vals
                simp only [fillAll, List.getElem?_cons_zero, List.getElem?_cons_succ, Act.put, List.setIfInBounds_toArray, List.set_cons_zero, List.set_cons_succ]
                exact rfl
               case hSb2 => exact fun wx w2 hb hS => below_two hS hb
               case hPb2 =>
                intro k v wa wb hb h
                match k, h with
                | 0, h => exact h
                | 1, h => exact h
                | 2, h => exact h
                | 3, h => exact h
                | 4, h => exact h
                | _ + 5, h => exact h
               case hS2 => exact (Below.refl _ _).drew
               case hop2 =>
                refine .cons (k := 0) ?_ (.cons (k := 1) ?_ (.cons (k := 2) ?_ (.cons (k := 3) ?_ (.cons (k := 4) ?_ (.cons (k := 5) ?_ (.nil))))))
                all_goals intro vals wr hS hd KC hK
                all_goals (show Oper.wp _ _ _ _ _ _; dsimp only)
                · go_simp
                  refine hK _ _ rfl (Below.refl _ _) (by first | rfl | simp) (fun h => by cases h)
                · go_simp
                  refine hK _ _ rfl (Below.refl _ _) (by first | rfl | simp) (fun h => by cases h)
                · have d0 : vals 0 = _ := hd 0 (by decide +kernel)
                  have d1 : vals 1 = _ := hd 1 (by decide +kernel)
                  rw [d0, d1]
                  go_simp
                  refine hK _ _ rfl (Below.refl _ _) (by first | rfl | simp) (fun h => by cases h)
                · have d2 : vals 2 = _ := hd 2 (by decide +kernel)
                  rw [d2]
                  refine wp_loadV 36 _ rfl gc (i * 3) rfl (tkC (tt.1 : Int) (strOf tt.2.1) ((tt.2.2 : Int) + ((s_s.size : Int) + 1))) (Lib.hid (HIc.out.below hgcS.out hS)) (Lib.hid (many3 _ _ _)) ?_
                  refine hK _ _ rfl (Below.refl _ _) (by first | rfl | simp) (fun h => by cases h)
                · refine wp_loadV 36 _ rfl q_w 0 rfl (tkC (tt.1 : Int) (strOf tt.2.1) ((tt.2.2 : Int) + ((s_s.size : Int) + 1))) (Lib.hid (h_rw.below hS).inV) (Lib.hid (many3 _ _ _)) ?_
                  refine hK _ _ rfl (Below.refl _ _) (by first | rfl | simp) (fun h => by cases h)
                · have d3 : vals 3 = _ := hd 3 (by decide +kernel)
                  have d4 : vals 4 = _ := hd 4 (by decide +kernel)
                  rw [d3, d4]
                  have heq := fun W => equal_tk (k := (tt.1 : Int)) (k' := (tt.1 : Int)) (s := strOf tt.2.1) (s' := strOf tt.2.1) (a := ((tt.2.2 : Int) + ((s_s.size : Int) + 1))) (a' := ((tt.2.2 : Int) + ((s_s.size : Int) + 1))) (b := true) (by simp) W
                  go_simp
                  refine hK _ _ rfl (Below.refl _ _) (by first | rfl | simp) (fun h => by cases h)
               case hfin2 =>
                intro vals wr hS hP hne
                have ez_5 : vals 5 = _ := hP 5 (by decide)
                try dsimp only
                rw [ez_5]
                refine wpAny_done (by kernel_rfl) ?_ _
                have HB2 := Lib.hid (below_two (below_two HB.out HBw.out) hS)
                clear hS hP hne
                go_wp2
                exact ⟨⟨i + 1, by omega, by go_num, HB2⟩, by simp [intOf]; omega⟩
           · obtain rfl : i = n_c := by omega
             have bn := HB.out
             have bw := below_two HBs.out bn
             clear bn
             go_wp2_with fail
             refine (wakes_any wr (Lib.hid (HT0.out.below bw))).mono ?_
             rintro e w7 ⟨rfl, bn⟩
             replace bw := below_two bw bn
             clear bn
             go_wp2
             go_ret
             exact ⟨by first | rfl | simp, bw⟩
theorem tab_of {W : World} (h : laidMet Tryd.prog Rows.lexKindsRow.laid W) : XTab W := by
 refine ⟨?_, ?_⟩
 · first | exact kinds_tab (laidMet_drop 0 h) (by decide +kernel) | exact kinds_tab (laidMet_drop 1 h) (by decide +kernel) | exact kinds_tab (laidMet_drop 2 h) (by decide +kernel) | exact kinds_tab (laidMet_drop 3 h) (by decide +kernel) | exact kinds_tab (laidMet_drop 4 h) (by decide +kernel) | exact kinds_tab (laidMet_drop 5 h) (by decide +kernel) | exact kinds_tab (laidMet_drop 6 h) (by decide +kernel) | exact kinds_tab (laidMet_drop 7 h) (by decide +kernel) | exact kinds_tab (laidMet_drop 8 h) (by decide +kernel) | exact kinds_tab (laidMet_drop 9 h) (by decide +kernel) | exact kinds_tab (laidMet_drop 10 h) (by decide +kernel) | exact kinds_tab (laidMet_drop 11 h) (by decide +kernel) | exact kinds_tab (laidMet_drop 12 h) (by decide +kernel) | exact kinds_tab (laidMet_drop 13 h) (by decide +kernel)
 · first | exact lkinds_tab (laidMet_drop 0 h) (by decide +kernel) | exact lkinds_tab (laidMet_drop 1 h) (by decide +kernel) | exact lkinds_tab (laidMet_drop 2 h) (by decide +kernel) | exact lkinds_tab (laidMet_drop 3 h) (by decide +kernel) | exact lkinds_tab (laidMet_drop 4 h) (by decide +kernel) | exact lkinds_tab (laidMet_drop 5 h) (by decide +kernel) | exact lkinds_tab (laidMet_drop 6 h) (by decide +kernel) | exact lkinds_tab (laidMet_drop 7 h) (by decide +kernel) | exact lkinds_tab (laidMet_drop 8 h) (by decide +kernel) | exact lkinds_tab (laidMet_drop 9 h) (by decide +kernel) | exact lkinds_tab (laidMet_drop 10 h) (by decide +kernel) | exact lkinds_tab (laidMet_drop 11 h) (by decide +kernel) | exact lkinds_tab (laidMet_drop 12 h) (by decide +kernel) | exact lkinds_tab (laidMet_drop 13 h) (by decide +kernel)
set_option maxRecDepth 100000 in
theorem lifted (os : Os) (started : os.Started) (H : Type) (enc : TypeId × Value → H) :
 ReturnsInHanded {} Tryd.checked os 5 .any (fun w args => (Rows.lexKindsSpec.pre enc Tryd.prog Tryd.f5 [] false w args ∧ laidMetH Tryd.prog Rows.lexKindsRow.laid w) ∧ sizedMet enc Tryd.prog Tryd.f5 (OpenSpec.ofChange Rows.lexKindsSpec) false w args)
  (Rows.lexKindsSpec.post enc Tryd.prog Tryd.f5 false true false false) := by
 refine returnsInHanded_of_change_and (C := Tryd.checked) (X := fun w _ => laidMetH Tryd.prog Rows.lexKindsRow.laid w) (fun _ _ _ hh h => h.of_heap hh) own started (by kernel_rfl) Tryd.func5
  (ChangeSpec.witness_shaped (enc := enc) (C := Tryd.checked) (os := os) (X := fun w _ => laidMetH Tryd.prog Rows.lexKindsRow.laid w) false (World.laidAll Tryd.prog os Rows.lexKindsRow.laid) #[.string ⟨#[]⟩, .string ⟨#[]⟩] 8 (World.laidAll_os _ _ _)
    (World.shaped_of_ZipB (by kernel_rfl) (by kernel_rfl)) (by kernel_rfl) (by kernel_rfl) (by kernel_rfl)
    (by rw [MakeChecks.laidMetH_plain _ _ _ (by kernel_rfl)]; exact laidMet_laidAll _ (by kernel_rfl) (by kernel_rfl))) ?_
 intro W base args ds gs before hval0 hW _ hwt hL _
 have hval : ∀ (j : Nat) t v, Tryd.f5.params[j]? = some t → args[j]? = some v → Value.okWide Tryd.prog W .any base t v := hval0
 have hW' := hW
 obtain ⟨p, q, hA0, hV, rfl, hfz, hnd⟩ := hW
 have hA : DataW.TrodAll enc Tryd.prog W 0 (fun _ => true) true Tryd.f5.params.toList args.toList ds p := hA0
 rw [Tryd.params5] at hA hval hwt
 obtain ⟨v0, vs0, d0, ds0, p0, q0, hargs, rfl, rfl, h0, r0⟩ := trodAll_cons hA
 obtain ⟨v1, vs1, d1, ds1, p1, q1, rfl, rfl, rfl, h1, r1⟩ := trodAll_cons r0
 obtain ⟨rfl, rfl, rfl⟩ := trodAll_nil r1
 obtain rfl : args = #[v0, v1] := by cases args; simp_all
 obtain ⟨rfl, rfl⟩ := trodVars_none hV
 obtain ⟨a0, rfl, rfl, rfl, w0⟩ := Go.ChangeMaps.open_string Tryd.underlying9 (hval 0 9 v0 rfl rfl) h0
 obtain ⟨a1, rfl, rfl, rfl, w1⟩ := Go.ChangeMaps.open_string Tryd.underlying9 (hval 1 9 v1 rfl rfl) h1
 clear hA0 hval0
 have hwt2 := List.all_eq_true.1 hwt
 have y0 : a0.size ≤ 140737488351232 := by
  have h : decide (a0.data.toList.length ≤ reachBytes) = true := hwt2 (a0.data.toList.length) (by simp [DataW.weightsEach, DataW.weights])
  simpa [reachBytes] using of_decide_eq_true h
 have y1 : a1.size ≤ 140737488351232 := by
  have h : decide (a1.data.toList.length ≤ reachBytes) = true := hwt2 (a1.data.toList.length) (by simp [DataW.weightsEach, DataW.weights])
  simpa [reachBytes] using of_decide_eq_true h
 simp only [List.append_nil] at hW'
 rw [MakeChecks.laidMetH_plain _ _ _ (by kernel_rfl)] at hL
 refine (walk a0 a1 W w0 y0 w1 y1 (tab_of hL)).mono fun e W' ⟨he, bel⟩ => ?_
 subst he
 exact ⟨_, rfl, _, _, _, [], _, [], hW', trodAll_mk1 (shut_bool Tryd.underlying4 _), (trodAll_cons_mk (Go.ChangeMaps.shut_string Tryd.underlying9 w0) (trodAll_cons_mk (Go.ChangeMaps.shut_string Tryd.underlying9 w1) trodAll_mk0)), rfl, bel.frame _, fun h => by cases h⟩
theorem over : Rows.lexKindsRow.holds Tryd.pinned (OpenSpec.ofChange Rows.lexKindsSpec) :=
 OpenClaim.holds_of_wide 5 Tryd.f5 rfl rfl rfl rfl rfl rfl rfl ⟨rfl, rfl, rfl, rfl, rfl⟩ rfl rfl rfl rfl rfl (by kernel_rfl) Tryd.func5 (by kernel_rfl)
  (of_decide_eq_true (by kernel_rfl)) (by unfold Func.isWrapper; first | (rw [if_pos (by decide +kernel)]; kernel_rfl) | (rw [if_neg (by decide +kernel)]; exact ⟨rfl, rfl⟩))
  (fun os started H enc _ => lifted os started H enc)
theorem proved : Rows.LexKindsCardSaid :=
 Claim7.holds_tied_plain_at .later [] Rows.lexKindsCard.laidKinds true Rows.lexKindsCard.stood.harness Rows.lexKindsCard.stood.looks
  over (fun _ h => by cases h) (by kernel_rfl) (fun _ h => by cases h) lexKinds_row_tie rfl ⟨rfl, rfl⟩ (by kernel_rfl) rfl
  (fun f fn hf hfn => by
    obtain rfl : f = 5 := Option.some.inj ((show Tryd.prog.funcNamed Rows.lexKindsRow.func = some 5 by kernel_rfl).symm.trans hf) |>.symm
    obtain rfl : fn = Tryd.f5 := (Option.some.inj (Tryd.func5.symm.trans hfn)).symm
    exact ⟨by kernel_rfl, fun j t ht => by
     have hm : t ∈ Tryd.f5.params.toList := by simpa using Array.mem_of_getElem? ht
     have hall : (Tryd.f5.params.toList.all fun u => !Tryd.prog.wantsStandIn u) = true := by kernel_rfl
     exact (show Tryd.prog.wantsStandIn t = false by simpa using List.all_eq_true.1 hall t hm)⟩)
  (by kernel_rfl)
end Go.Proofs.YthjnepfpohmpkaaDoor.lawLexKinds
