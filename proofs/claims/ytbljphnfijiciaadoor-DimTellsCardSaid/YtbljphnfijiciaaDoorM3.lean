/- Part 3 of the texts that the statements of this seat lean on: mathematics, and what functions answer, as contracts over memory; each part says its own conditions. -/
import Derived.Test.YtbljphnfijiciaaDoorM2
import Derived.Test.YtbljphnfijiciaaDoorShelf
import Derived.Lib.AppendIntMem
/- What package dim's Text answers, as a contract over memory. Conditions: seven exponents; the tables read as listed. -/
namespace Go.Proofs.YtbljphnfijiciaaDoor
open Go.RowKit Limb
set_option linter.unusedVariables false
theorem strs_elem : Elem Tryd.prog 44 9 1 := elem_of Tryd.underlying44 (v := .string ⟨#[]⟩) (b := 16) (by kernel_rfl) rfl (by decide) (by decide)
theorem DTab.lt {w : World} (h : DTab w) : 0 < w.heap.size ∧ 1 < w.heap.size := by
 obtain ⟨h1, T, fr, h2⟩ := h
 exact ⟨Lib.lt_of_cell (h1 0 (by decide)), (Array.getElem?_eq_some_iff.1 h2).1⟩
theorem DTab.grown {w w' : World} {B : Nat} {e : TypeId} {sz n c : Nat} {A : Option Addr} {zs : List Value} (h : DTab w) (ho : OwnR w B e sz A n c zs) (hg : w.grownBy w' (Value.ownBlock (.slice A n c))) (hB : 0 < B ∧ 1 < B) : DTab w' := by
 obtain ⟨h1, T, fr, h2⟩ := h
 have hne : ∀ k, k < B → some k ≠ Value.ownBlock (.slice A n c) := fun k hk e => by have := (ho.lt k e.symm).1; omega
 exact ⟨fun i hi => hg.cell (h1 i hi) (hne _ hB.1), T, fr, (hg.block _ (Array.getElem?_eq_some_iff.1 h2).1 (hne _ hB.2)).trans h2⟩
theorem words_short : ∀ nm ∈ dimN, nm.length ≤ 3 := by decide
theorem pieces_memE : ∀ {ns : List (List Nat)} {es : List Int} {p : List Nat}, p ∈ pieces ns es → ∃ nm ∈ ns, ∃ e ∈ es, p = piece nm e
 | [], es, p, h => by cases es <;> cases h
 | n :: ns, [], p, h => by cases h
 | n :: ns, e :: es, p, h => by
  unfold pieces at h
  split at h
  · obtain ⟨n', h1, e', h2, h3⟩ := pieces_memE h
    exact ⟨n', List.mem_cons_of_mem _ h1, e', List.mem_cons_of_mem _ h2, h3⟩
  · rcases List.mem_cons.1 h with h2 | h2
    · exact ⟨n, by simp, e, by simp, h2⟩
    · obtain ⟨n', h1, e', h3, h4⟩ := pieces_memE h2
      exact ⟨n', List.mem_cons_of_mem _ h1, e', List.mem_cons_of_mem _ h3, h4⟩
theorem itoa_w (e : Int) (h : -9223372036854775808 ≤ e ∧ e ≤ 9223372036854775807) (I : ByteArray) (hI : (⟨(Lib.itoa e).toArray⟩ : ByteArray) = I) (w : World) (T : DTab w) :
 Calls Tryd.prog 21 #[.int .i64 e] w fun e w' => e = .returned (.string I) ∧ Below w.heap.size w w' := by
 subst hI
 refine (Any.strconv_Itoa Tryd.laysM171 e h.1 h.2 w ?_).mono ?_
 · exact T.pow10 (by kernel_rfl)
 · rintro e w' ⟨rfl, k, os, rfl⟩
   exact ⟨rfl, Lib.below_grow _ _ (Nat.le_refl _) _ _⟩
theorem join_w {w : World} {xs : List Int} {S : ByteArray} (g n c : Nat) (hx : xs.length = 7) (h64 : I64 xs) (h0 : xs ≠ dim0) (hl : (pieces dimN xs).length = n) (hS : strOf (dimT xs) = S) (hcell : ∀ j u, (texts (pieces dimN xs))[j]? = some u → w.cell? ⟨g, j, none⟩ = some u) (hg : g < w.heap.size) (hc : n ≤ c) :
 Calls Tryd.prog 22 #[.slice (some ⟨g, 0, none⟩) n c, .string ⟨#[32]⟩] w fun e w' => e = .returned (.string S) ∧ Below w.heap.size w w' := by
 have hne := pieces_ne hx h0
 have hls : (pieces dimN xs).length ≤ 7 := by have := pieces_len xs 7; rwa [show dimN.take 7 = dimN from rfl, List.take_of_length_le (by rw [hx]; decide)] at this
 have hjn : Lib.join (((pieces dimN xs).map strOf).map (·.data.toList)) [32] = byL (dimT xs) := by
  rw [List.map_map, show ((fun s : ByteArray => s.data.toList) ∘ strOf) = byL from rfl, join_is hne, ← dimT_is hne]
 have hsh : (joinB (pieces dimN xs)).length ≤ 25 * (pieces dimN xs).length := join_short fun p hp => by
  obtain ⟨nm, h1, e, he, rfl⟩ := pieces_memE hp
  exact piece_short (words_short nm h1) (h64 e he)
 have h := Any.strings_Join Tryd.lays156 Tryd.Builder_Extra_156 g 0 c ((pieces dimN xs).map strOf) ⟨#[32]⟩ w (fun j x hj => by
  rw [Nat.zero_add]
  refine hcell j _ ?_
  unfold texts
  rw [List.getElem?_map] at hj ⊢
  cases hq : (pieces dimN xs)[j]? with
  | none => rw [hq] at hj; cases hj
  | some q => rw [hq] at hj; injection hj with hj; rw [← hj]; rfl) hg (by rw [List.length_map]; omega) (by rw [List.length_map]; omega) (by
  show (Lib.join _ [32]).length ≤ _
  rw [hjn]; unfold byL; rw [List.length_map, dimT_is hne]; omega)
 rw [List.length_map, hl] at h
 refine h.mono ?_
 rintro e w' ⟨rfl, hb⟩
 refine ⟨?_, hb⟩
 rw [← hS]
 show Ending.returned (.string ⟨(Lib.join _ [32]).toArray⟩) = _
 rw [hjn]; rfl
section
variable {w : World} {xs ys : List Int}
set_option maxHeartbeats 4000000 in
set_option maxRecDepth 100000 in
theorem dText_c (hx : xs.length = 7) (h64 : I64 xs) (S : ByteArray) (hS : strOf (dimT xs) = S) (T : DTab w) :
 Calls Tryd.prog 14 #[.agg (dimV xs)] w fun e w' => e = .returned (.string S) ∧ Below w.heap.size w w' := by
 have b0 := below_new w (.cells (dimV xs) 23)
 have HI := Lib.hid (rowA_new w 23 (dimV xs)).inV
 have HM := Lib.hid (many7 hx)
 have HB := Lib.hid b0
 have HX := Lib.hid hx
 have H64 := Lib.hid h64
 have HS := Lib.hid hS
 have HT := Lib.hid (T.below b0)
 have HG := Lib.hid T.lt
 clear b0 h64 hS T
 by_cases h0 : xs = dim0
 · subst h0
   have heq := fun W => equal_dim (xs := dim0) (ys := dim0) rfl rfl (b := true) (by decide) W
   rw [dim0_V] at heq HI HB HM ⊢
   go_enter Tryd.func14, Tryd.ntmps14
   go_wp2_with (refine wpList_loadV (by rfl) 23 _ (by rfl) _ _ (by rfl) _ (by assumption) (by assumption) ?_)
   go_ret
   refine ⟨?_, HB.out⟩
   rw [← HS.out, dimT_zero]; rfl
 · have heq := fun W => equal_dim (xs := xs) (ys := dim0) HX.out rfl (b := false) (by simpa using h0) W
   rw [dim0_V] at heq
   have HN := Lib.hid h0
   clear hx h0
   go_enter Tryd.func14, Tryd.ntmps14
   go_wp2_with (refine wpList_loadV (by rfl) 23 _ (by rfl) _ _ (by rfl) _ (by assumption) (by assumption) ?_)
   generalize w.alloc (.cells (dimV xs) 23) = w1 at *
   clear HI heq
   go_loopw [3, 10] (fun pv iv wr => ∃ (i n c : Nat) (A : Option Addr), i ≤ 7 ∧ pv = .slice A n c ∧ iv = .int .i64 (i : Int) ∧ Hid (OwnR wr w.heap.size 9 1 A n c (texts (pieces (dimN.take i) (xs.take i)))) ∧ Hid (DTab wr) ∧ Hid (Below w.heap.size w wr)) (fun _ iv _ => 7 - (intOf iv).toNat)
   · exact ⟨0, 0, 0, none, by decide, rfl, rfl, OwnR.nil _ _ _ _, HT, HB⟩
   · obtain ⟨i, n, c, A, hi, rfl, rfl, hO, hT, hb⟩ := hrel
     clear HT HB
     by_cases h7 : i < 7
     · have hidx := fun W => index_dim HX.out i h7 W
       have hr := H64.out.at (i := i) (by rw [HX.out]; exact h7)
       have hp := pieces_step (ns := dimN) (es := xs) (i := i) (by show i < 7; exact h7) (by rw [HX.out]; exact h7)
       have hn : n ≤ 7 := by have h1 := hO.out.len; have h2 := pieces_len xs i; unfold texts at h1; rw [List.length_map] at h1; omega
       have u0 := hT.out.1 i h7
       have hus := name_short i
       generalize xs.getD i 0 = e at *
       generalize hnm : dimN.getD i [] = nm at *
       have Hnm := Lib.hid hnm
       clear hnm
       have hps := piece_short (e := e) hus hr
       by_cases e0 : e = 0
       · subst e0
         rw [if_pos rfl, List.append_nil] at hp
         rw [← hp] at hO
         clear hp hr u0 hps
         go_wp2
         exact ⟨⟨i + 1, n, c, A, by omega, rfl, by simp, hO, hT, hb⟩, by simp [intOf]; omega⟩
       · by_cases e1 : e = 1
         · subst e1
           rw [if_neg e0, show piece nm 1 = nm by unfold piece; simp] at hp
           have hp := Lib.hid hp
           obtain ⟨U, hU⟩ : ∃ U, strOf nm = U := ⟨_, rfl⟩
           rw [hU] at u0
           have bl := below_new wr (.cells #[.string U] 9)
           have HO := Lib.hid (hO.out.below bl)
           have HL : Hid (RowA (wr.alloc (.cells #[.string U] 9)) wr.heap.size 9 #[.string U] ∧ (#[.string U] : Array Value).size = 1 ∧ ∀ v ∈ (#[.string U] : Array Value), v.oneCell' = true) := ⟨rowA_new _ _ _, rfl, by simp; rfl⟩
           have HE : Hid (n ≤ 1000000 ∧ w.heap.size ≤ (wr.alloc (.cells #[.string U] 9)).heap.size) := by constructor; (· omega); (· have := hb.out.size; simp; omega)
           have HT2 := Lib.hid (hT.out.below bl)
           have HB2 := Lib.hid (hb.out.trans (bl.mono hb.out.size))
           have HU := Lib.hid hU
           clear bl hO hT hb hr hps hus e0 hU
           go_wp2_with (at_builtin; refine wpList_append_one rfl _ _ 44 rfl w.heap.size 9 1 strs_elem A n c _ rfl HO wr.heap.size rfl 9 #[.string U] HL HE ?_)
           intro A2 c2 w2 hO2 hg2
           have HB3 := Lib.hid (below_append HB2.out (Nat.le_refl _) HE.out.2 HO.out hg2.out)
           have HT3 := Lib.hid (HT2.out.grown HO.out hg2.out HG.out)
           have HO3 : Hid (OwnR w2 w.heap.size 9 1 A2 (n + 1) c2 (texts (pieces (dimN.take (i + 1)) (xs.take (i + 1))))) := by
            show OwnR _ _ _ _ _ _ _ _
            rw [hp.out, texts_append]; rw [← HU.out] at hO2; exact hO2.out
           clear HO HL HT2 HB2 HE hg2
           go_wp2
           exact ⟨⟨i + 1, n + 1, c2, A2, by omega, rfl, by simp, HO3.out, HT3, HB3⟩, by simp [intOf]; omega⟩
         · rw [if_neg e0, show piece nm e = nm ++ 94 :: zT e by unfold piece; rw [if_neg e1]] at hp
           have hp := Lib.hid hp
           have z0 : (e == 0) = false := by simpa using e0
           have z1 : (e == 1) = false := by simpa using e1
           obtain ⟨U, hU⟩ : ∃ U, strOf nm = U := ⟨_, rfl⟩
           rw [hU] at u0
           obtain ⟨I, hI⟩ : ∃ I : ByteArray, (⟨(Lib.itoa e).toArray⟩ : ByteArray) = I := ⟨_, rfl⟩
           have us : U.size ≤ 3 := by rw [← hU, size_strOf]; exact hus
           have is_ : I.size ≤ 20 := by rw [← hI, ← itoa_is, size_strOf]; exact zT_short hr
           have Hr := Lib.hid hr
           have HI := Lib.hid hI
           have HP : Hid (strOf (nm ++ 94 :: zT e) = U ++ (⟨#[94]⟩ : ByteArray) ++ I) := by show _ = _; rw [← hU, ← hI, ← itoa_is, show nm ++ 94 :: zT e = (nm ++ [94]) ++ zT e by simp, ← strOf_append, ← strOf_append]; rfl
           have HUn := Lib.hid hU
           clear hr hps hus e0 e1 hI u0 hU
           go_wp2
           generalize wr = wS at *
           refine region_freed 9 2 9 [15, 16, 17, 18, 19, 20, 21, 22, 23] ?aF3 (fun wx => Below wS.heap.size wS wx) (fun k vv wx => match k with
            | 0 => vv = .slice A n c
            | 1 => vv = .int .i64 (i : Int)
            | 2 => vv = .pointer (some ⟨0, i, none⟩)
            | 3 => vv = .string U
            | 4 => vv = .string (U ++ (⟨#[94]⟩ : ByteArray))
            | 5 => vv = .int .i64 e
            | 6 => vv = .string I
            | 7 => vv = .string (U ++ (⟨#[94]⟩ : ByteArray) ++ I)
            | _ => ∃ (e0 : Nat), vv = .slice (some ⟨e0, 0, none⟩) 1 1 ∧ RowA wx e0 9 #[.string (U ++ (⟨#[94]⟩ : ByteArray) ++ I)])
            (fun k => false) (by kernel_rfl) ?haF3 rfl (by kernel_rfl) (by kernel_rfl) (fun _ _ _ _ _ h => h) ?hSb3 ?hPb3 ?hS3 ?hop3 ?hfin3
           case haF3 =>
            intro vals
            simp only [fillAll, List.getElem?_cons_zero, List.getElem?_cons_succ, Act.put, List.setIfInBounds_toArray, List.set_cons_zero, List.set_cons_succ]
            exact rfl
           case hSb3 => exact fun wx w2 hb hS => below_two hS hb
           case hPb3 =>
            intro k v wa wb hb h
            match k, h with
            | 0, h => exact h
            | 1, h => exact h
            | 2, h => exact h
            | 3, h => exact h
            | 4, h => exact h
            | 5, h => exact h
            | 6, h => exact h
            | 7, h => exact h
            | _ + 8, ⟨e0, h1, g0⟩ => exact ⟨e0, h1, g0.below hb⟩
           case hS3 => exact (Below.refl _ _).drew
           case hop3 =>
            refine .cons (k := 0) (.plain rfl ?_) (.cons (k := 1) (.plain rfl ?_) (.cons (k := 2) (.plain rfl ?_) (.cons (k := 3) (.plain rfl ?_) (.cons (k := 4) (.plain rfl ?_) (.cons (k := 5) (.plain rfl ?_) (.cons (k := 6) (.plain rfl ?_) (.cons (k := 7) (.plain rfl ?_) (.cons (k := 8) (.plain rfl ?_) (.nil)))))))))
            all_goals intro vals wr hS hd KC hK
            all_goals (show Oper.wp _ _ _ _ _ _; dsimp only)
            · go_simp
              refine hK _ _ rfl (Below.refl _ _) (by first | rfl | simp) (fun h => by cases h)
            · go_simp
              refine hK _ _ rfl (Below.refl _ _) (by first | rfl | simp) (fun h => by cases h)
            · have d1 : vals 1 = _ := hd 1 (by decide +kernel)
              rw [d1]
              go_simp
              refine hK _ _ rfl (Below.refl _ _) (by first | rfl | simp) (fun h => by cases h)
            · have d2 : vals 2 = _ := hd 2 (by decide +kernel)
              rw [d2]
              have u1 := (hT.out.below hS).1 i h7
              rw [Hnm.out, HUn.out] at u1
              go_simp
              refine hK _ _ rfl (Below.refl _ _) (by first | rfl | simp) (fun h => by cases h)
            · have d3 : vals 3 = _ := hd 3 (by decide +kernel)
              rw [d3]
              go_simp
              rw [if_neg (by simp; omega)]
              go_simp
              refine hK _ _ rfl (Below.refl _ _) (by first | rfl | simp) (fun h => by cases h)
            · go_simp
              refine hK _ _ rfl (Below.refl _ _) (by first | rfl | simp) (fun h => by cases h)
            · have d5 : vals 5 = _ := hd 5 (by decide +kernel)
              rw [d5]
              go_simp
              go_at_call 21
              with_reducible refine (itoa_w e Hr.out _ HI.out wr (hT.out.below hS)).mono ?_
              rintro e w2 ⟨rfl, bn_r⟩
              refine hK _ _ rfl bn_r rfl (fun h => by cases h)
            · have d4 : vals 4 = _ := hd 4 (by decide +kernel)
              have d6 : vals 6 = _ := hd 6 (by decide +kernel)
              rw [d4, d6]
              have z3 : (U ++ (⟨#[94]⟩ : ByteArray)).size ≤ 4 := by rw [ByteArray.size_append]; have h4 : (⟨#[94]⟩ : ByteArray).size = 1 := rfl; omega
              go_simp
              rw [if_neg (by omega)]
              go_simp
              refine hK _ _ rfl (Below.refl _ _) (by first | rfl | simp) (fun h => by cases h)
            · have d7 : vals 7 = _ := hd 7 (by decide +kernel)
              rw [d7]
              go_simp
              refine hK _ _ rfl (below_new _ _) ⟨_, rfl, rowA_new wr _ _⟩ (fun h => by cases h)
           case hfin3 =>
            intro vals wr hS hP hne
            have ez_0 : vals 0 = _ := hP 0 (by decide)
            obtain ⟨n_8_0, ez_8, h_8_0⟩ := hP 8 (by decide)
            have HO := Lib.hid (hO.out.below hS)
            have HL : Hid (RowA wr n_8_0 9 #[.string (U ++ (⟨#[94]⟩ : ByteArray) ++ I)] ∧ (#[.string (U ++ (⟨#[94]⟩ : ByteArray) ++ I)] : Array Value).size = 1 ∧ ∀ v ∈ (#[.string (U ++ (⟨#[94]⟩ : ByteArray) ++ I)] : Array Value), v.oneCell' = true) := ⟨h_8_0, rfl, by simp; rfl⟩
            have HE : Hid (n ≤ 1000000 ∧ w.heap.size ≤ wr.heap.size) := by constructor; (· omega); (· have := hb.out.size; have := hS.size; omega)
            have HT2 := Lib.hid (hT.out.below hS)
            have HB2 := Lib.hid (hb.out.trans (hS.mono hb.out.size))
            clear hS hP hne h_8_0
            try dsimp only
            rw [ez_0, ez_8]
            refine wpAny_ready (rs := [9]) (by kernel_rfl) (by simp) (AllReady.cons rfl (fun KC hK => ?_) AllReady.nil)
            refine wp_append_one _ _ 44 rfl w.heap.size 9 1 strs_elem A n c _ rfl HO n_8_0 rfl 9 _ HL HE ?_
            intro A2 c2 w2 hO2 hg2
            have HB3 := Lib.hid (below_append HB2.out (Nat.le_refl _) HE.out.2 HO.out hg2.out)
            have HT3 := Lib.hid (HT2.out.grown HO.out hg2.out HG.out)
            have HO3 : Hid (OwnR w2 w.heap.size 9 1 A2 (n + 1) c2 (texts (pieces (dimN.take (i + 1)) (xs.take (i + 1))))) := by
             show OwnR _ _ _ _ _ _ _ _
             rw [hp.out, texts_append]; rw [← HP.out] at hO2; exact hO2.out
            clear HO HL HT2 HB2 HE hg2 hO2
            refine hK _ _ ?_
            clear hK KC
            try dsimp only [Act.put]
            refine wpAny_ready (rs := [10]) (by kernel_rfl) (by simp) (AllReady.cons rfl (fun KC hK => ?_) AllReady.nil)
            go_simp
            refine hK _ _ ?_
            clear hK KC
            refine wpAny_done (by kernel_rfl) ?_ _
            go_wp2
            exact ⟨⟨i + 1, n + 1, c2, A2, by omega, rfl, by simp, HO3.out, HT3, HB3⟩, by simp [intOf]; omega⟩
     · obtain rfl : i = 7 := by omega
       have ht : pieces (dimN.take 7) (xs.take 7) = pieces dimN xs := by rw [show dimN.take 7 = dimN from rfl, List.take_of_length_le (by rw [HX.out]; decide)]
       rw [ht] at hO
       have hne := pieces_ne HX.out HN.out
       have hl := hO.out.len
       unfold texts at hl
       rw [List.length_map, Nat.mul_one] at hl
       have hpos : 0 < n := by have := List.length_pos_iff.2 hne; omega
       obtain ⟨g, rfl, hg1, hg2, hg3, hg4, hcell⟩ := hO.out.cells hpos
       have hJ := Lib.hid (join_w (w := wr) (xs := xs) (S := S) g n c HX.out H64.out HN.out hl HS.out hcell hg2 hg3)
       clear hcell hl hne hO ht
       go_wp2_with (go_at_call 22; refine hJ.out.mono ?_; rintro e w2 ⟨rfl, bn⟩; have HB := Lib.hid (hb.out.trans (bn.mono hb.out.size)); clear bn)
       go_ret
       exact ⟨rfl, HB.out⟩
end
end Go.Proofs.YtbljphnfijiciaaDoor

/- What the statements' helper wakes of layer 11 answers, as a contract over memory. Condition: the tables read as listed. -/
namespace Go.Proofs.YtbljphnfijiciaaDoor
open Go.RowKit Limb
set_option linter.unusedVariables false
def wn : List Int := [1, 1, -2, 0, 0, 0, 0]
theorem wn_len : wn.length = 7 := rfl
theorem wn_i : I64 wn := by unfold I64; decide
def wm : List Int := [1, 0, 0, 0, 0, 0, 0]
theorem wm_len : wm.length = 7 := rfl
theorem wm_i : I64 wm := by unfold I64; decide
def wa : List Int := [2, 1, -2, 0, 0, 0, 0]
theorem wa_len : wa.length = 7 := rfl
def wb : List Int := [-2, -2, 4, 0, 0, 0, 0]
theorem wb_len : wb.length = 7 := rfl
def wq : List Int := [201, 0, 0, 0, 0, 0, 0]
theorem wq_i : I64 wq := by unfold I64; decide
theorem dim0_len : dim0.length = 7 := rfl
theorem wn_text : strOf (dimT wn) = ⟨#[109, 32, 107, 103, 32, 115, 94, 45, 50]⟩ := by decide +kernel
theorem dim0_text : strOf (dimT dim0) = ⟨#[49]⟩ := by decide +kernel
set_option maxHeartbeats 4000000 in
set_option maxRecDepth 100000 in
theorem wakes_any (w : World) (HT : DTab w) : Calls Tryd.prog 16 #[] w fun e w' => e = .returned (.bool true) ∧ Below w.heap.size w w' := by
 have bw := bel_refl w
 have HM_wn := Lib.hid (many7 wn_len)
 have HU_wn := Lib.hid (fits7 wn_len)
 have HM_wm := Lib.hid (many7 wm_len)
 have HU_wm := Lib.hid (fits7 wm_len)
 have HM_wa := Lib.hid (many7 wa_len)
 have HU_wa := Lib.hid (fits7 wa_len)
 have HM_wb := Lib.hid (many7 wb_len)
 have HU_wb := Lib.hid (fits7 wb_len)
 have HM_dim0 := Lib.hid (many7 dim0_len)
 have HU_dim0 := Lib.hid (fits7 dim0_len)
 go_enter Tryd.func16, Tryd.ntmps16
 have h_rn : RowA (w.alloc (.cells #[.int .i64 1, .int .i64 1, .int .i64 (-2), .int .i64 0, .int .i64 0, .int .i64 0, .int .i64 0] 23)) w.heap.size 23 (dimV wn) := rowA_new _ _ _
 have bn := below_new w (.cells #[.int .i64 1, .int .i64 1, .int .i64 (-2), .int .i64 0, .int .i64 0, .int .i64 0, .int .i64 0] 23)
 replace HT := HT.below bn
 replace bw := below_two bw bn
 clear bn
 have HI_n := Lib.hid h_rn.inV
 go_wp2_with (first | (refine wpList_loadV (by rfl) 23 _ (by rfl) _ _ (by rfl) _ (by assumption) (by assumption) ?_) | (refine wpList_storeNew (by rfl) 23 _ _ (by rfl) _ _ _ (by rfl) (by rfl) (by assumption) ?_))
 clear HI_n
 generalize w.alloc (.cells #[.int .i64 1, .int .i64 1, .int .i64 (-2), .int .i64 0, .int .i64 0, .int .i64 0, .int .i64 0] 23) = w1 at *
 obtain ⟨q_n, eg⟩ : ∃ g, g = w.heap.size := ⟨_, rfl⟩
 rw [← eg] at h_rn ⊢
 clear eg
 refine (dMul_c (xs := wn) (ys := wm) rfl wn_i rfl wm_i wa 0 (by decide)).mono ?_
 rintro e w2 ⟨rfl, bn⟩
 replace HT := HT.below bn
 replace h_rn := h_rn.below bn
 replace bw := below_two bw bn
 clear bn
 have h_ra := rowA_new w2 23 (dimV wa)
 have bn := below_new w2 (.cells (dimV wa) 23)
 replace HT := HT.below bn
 replace h_rn := h_rn.below bn
 replace bw := below_two bw bn
 clear bn
 have HI_n := Lib.hid h_rn.inV
 go_wp2_with (first | (refine wpList_loadV (by rfl) 23 _ (by rfl) _ _ (by rfl) _ (by assumption) (by assumption) ?_) | (refine wpList_storeNew (by rfl) 23 _ _ (by rfl) _ _ _ (by rfl) (by rfl) (by assumption) ?_))
 clear HI_n
 generalize w2.alloc (.cells (dimV wa) 23) = w3 at *
 obtain ⟨q_a, eg⟩ : ∃ g, g = w2.heap.size := ⟨_, rfl⟩
 rw [← eg] at h_ra ⊢
 clear eg
 refine (dPow_c (xs := wn) rfl wn_i (-2) (by decide) (by decide) wb 0 (by decide)).mono ?_
 rintro e w4 ⟨rfl, bn⟩
 replace HT := HT.below bn
 replace h_rn := h_rn.below bn
 replace h_ra := h_ra.below bn
 replace bw := below_two bw bn
 clear bn
 have h_rb := rowA_new w4 23 (dimV wb)
 have bn := below_new w4 (.cells (dimV wb) 23)
 replace HT := HT.below bn
 replace h_rn := h_rn.below bn
 replace h_ra := h_ra.below bn
 replace bw := below_two bw bn
 clear bn
 have HI_n := Lib.hid h_rn.inV
 go_wp2_with (first | (refine wpList_loadV (by rfl) 23 _ (by rfl) _ _ (by rfl) _ (by assumption) (by assumption) ?_) | (refine wpList_storeNew (by rfl) 23 _ _ (by rfl) _ _ _ (by rfl) (by rfl) (by assumption) ?_))
 clear HI_n
 generalize w4.alloc (.cells (dimV wb) 23) = w5 at *
 obtain ⟨q_b, eg⟩ : ∃ g, g = w4.heap.size := ⟨_, rfl⟩
 rw [← eg] at h_rb ⊢
 clear eg
 refine (dPow_c (xs := wn) rfl wn_i 101 (by decide) (by decide) dim0 2 (by decide)).mono ?_
 rintro e w6 ⟨rfl, bn⟩
 replace HT := HT.below bn
 replace h_rn := h_rn.below bn
 replace h_ra := h_ra.below bn
 replace h_rb := h_rb.below bn
 replace bw := below_two bw bn
 clear bn
 have h_rc := rowA_new w6 23 (dimV dim0)
 have bn := below_new w6 (.cells (dimV dim0) 23)
 replace HT := HT.below bn
 replace h_rn := h_rn.below bn
 replace h_ra := h_ra.below bn
 replace h_rb := h_rb.below bn
 replace bw := below_two bw bn
 clear bn
 have HI_n := Lib.hid h_rn.inV
 go_wp2_with (first | (refine wpList_loadV (by rfl) 23 _ (by rfl) _ _ (by rfl) _ (by assumption) (by assumption) ?_) | (refine wpList_storeNew (by rfl) 23 _ _ (by rfl) _ _ _ (by rfl) (by rfl) (by assumption) ?_))
 clear HI_n
 generalize w6.alloc (.cells (dimV dim0) 23) = w7 at *
 obtain ⟨q_c, eg⟩ : ∃ g, g = w6.heap.size := ⟨_, rfl⟩
 rw [← eg] at h_rc ⊢
 clear eg
 refine (dDiv_c (xs := wq) (ys := wn) rfl wq_i rfl wn_i dim0 1 (by decide)).mono ?_
 rintro e w8 ⟨rfl, bn⟩
 replace HT := HT.below bn
 replace h_rn := h_rn.below bn
 replace h_ra := h_ra.below bn
 replace h_rb := h_rb.below bn
 replace h_rc := h_rc.below bn
 replace bw := below_two bw bn
 clear bn
 have h_rd := rowA_new w8 23 (dimV dim0)
 have bn := below_new w8 (.cells (dimV dim0) 23)
 replace HT := HT.below bn
 replace h_rn := h_rn.below bn
 replace h_ra := h_ra.below bn
 replace h_rb := h_rb.below bn
 replace h_rc := h_rc.below bn
 replace bw := below_two bw bn
 clear bn
 have heq1 := fun W => equal_dim (xs := wa) (ys := wa) rfl rfl (b := true) (by decide) W
 have heq2 := fun W => equal_dim (xs := wb) (ys := wb) rfl rfl (b := true) (by decide) W
 change ∀ W, (Op.equalIn 10000 23 (.agg (dimV wa)) (.agg #[.int .i64 2, .int .i64 1, .int .i64 (-2), .int .i64 0, .int .i64 0, .int .i64 0, .int .i64 0])).run Tryd.prog W = .ok true W at heq1
 change ∀ W, (Op.equalIn 10000 23 (.agg (dimV wb)) (.agg #[.int .i64 (-2), .int .i64 (-2), .int .i64 4, .int .i64 0, .int .i64 0, .int .i64 0, .int .i64 0])).run Tryd.prog W = .ok true W at heq2
 have HI_a := Lib.hid h_ra.inV
 have HI_b := Lib.hid h_rb.inV
 have HI_n := Lib.hid h_rn.inV
 go_wp2_with (first | (refine wpList_loadV (by rfl) 23 _ (by rfl) _ _ (by rfl) _ (by assumption) (by assumption) ?_) | (refine wpList_storeNew (by rfl) 23 _ _ (by rfl) _ _ _ (by rfl) (by rfl) (by assumption) ?_))
 clear HI_a HI_b HI_n
 generalize w8.alloc (.cells (dimV dim0) 23) = w9 at *
 obtain ⟨q_d, eg⟩ : ∃ g, g = w8.heap.size := ⟨_, rfl⟩
 rw [← eg] at h_rd ⊢
 clear eg
 refine (dText_c (xs := wn) rfl wn_i ⟨#[109, 32, 107, 103, 32, 115, 94, 45, 50]⟩ wn_text HT).mono ?_
 rintro e w10 ⟨rfl, bn⟩
 replace HT := HT.below bn
 replace h_rn := h_rn.below bn
 replace h_ra := h_ra.below bn
 replace h_rb := h_rb.below bn
 replace h_rc := h_rc.below bn
 replace h_rd := h_rd.below bn
 replace bw := below_two bw bn
 clear bn
 go_wp2_with fail
 refine (dText_c (xs := dim0) rfl dim0_i64 ⟨#[49]⟩ dim0_text HT).mono ?_
 rintro e w11 ⟨rfl, bn⟩
 replace HT := HT.below bn
 replace h_rn := h_rn.below bn
 replace h_ra := h_ra.below bn
 replace h_rb := h_rb.below bn
 replace h_rc := h_rc.below bn
 replace h_rd := h_rd.below bn
 replace bw := below_two bw bn
 clear bn
 have HI_n := Lib.hid h_rn.inV
 go_wp2_with (refine wpList_loadV (by rfl) 23 _ (by rfl) _ _ (by rfl) _ (by assumption) (by assumption) ?_)
 clear HI_n
 refine (dGood_c (xs := wn) rfl wn_i true (by decide)).mono ?_
 rintro e w12 ⟨rfl, bn⟩
 replace HT := HT.below bn
 replace h_rn := h_rn.below bn
 replace h_ra := h_ra.below bn
 replace h_rb := h_rb.below bn
 replace h_rc := h_rc.below bn
 replace h_rd := h_rd.below bn
 replace bw := below_two bw bn
 clear bn
 clear heq1 heq2 HT
 go_wp2
 go_ret
 exact ⟨rfl, bw⟩
end Go.Proofs.YtbljphnfijiciaaDoor
