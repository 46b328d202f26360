/- For every script WriteLines answers true and leaves its argument as it was. Conditions: the row's own (the variables read as the program lays them). -/
import Derived.Test.YtannifhcjcbkcaaGreatDoorMA14
import Derived.Test.YtannifhcjcbkcaaGreatDoorCards
import Derived.Test.YtannifhcjcbkcaaGreatDoorTie
import Derived.ChangeMaps5
import Derived.Lay
import Derived.SevenTiedAt
/- For every script WriteLines answers true and leaves its argument as it was. Conditions: the row's own (the variables read as the program lays them). -/
namespace Go.Proofs.YtannifhcjcbkcaaGreatDoor.lawWriteLines
open Go.ChangeShapes Go.WideShapes Go.ChangeAt Go.RowKit Limb
set_option linter.unusedVariables false
theorem mildD_small {ds : List Dc} (h : largeS ds = false) (hb : ∀ d ∈ ds, BytD d) : ∀ d ∈ ds, MildD d := fun d hd => by
 obtain ⟨h1, h2, h3, h4, h5, h6⟩ := (small_S h).2 d hd
 exact ⟨mild_small h1, hb d hd, by omega, by omega, by omega, by omega, by omega⟩
theorem scrW_cases (ds : List Dc) : (∃ E : Int, scrW ds = ([], E) ∧ E ≠ 0) ∨ (scrW ds = (linesL ds, 0) ∧ (∀ d ∈ ds, goodD d = true) ∧ ds.length ≤ 60 ∧ (linesL ds).length ≤ 4000) := by
 unfold scrW
 split
 · exact .inl ⟨1, rfl, by decide⟩
 · rename_i h
   rw [not_or] at h
   split
   · exact .inl ⟨2, rfl, by decide⟩
   · refine .inr ⟨rfl, fun d hd => ?_, by omega, by omega⟩
     have h2 : ds.all goodD = true := by simpa using h.2
     exact List.all_eq_true.1 h2 d hd
theorem offL_le (ds : List Dc) (k : Nat) : offL ds k ≤ (linesL ds).length := lines_le ds k
theorem extract_bytes (X : ByteArray) (a b : Nat) : bytesOf (X.extract a b) = ((bytesOf X).take b).drop a := by
 rw [bytesOf_extract, List.drop_take]
theorem body_head (d : Dc) : bodyL d = (wrdK d.k ++ 32 :: (d.nm ++ [32])) ++ (restL d ++ [32, 59]) := by unfold bodyL; simp
theorem body_end (d : Dc) : ∃ p, bodyL d = p ++ [32, 59] := ⟨wrdK d.k ++ 32 :: (d.nm ++ 32 :: restL d), by unfold bodyL; simp⟩
theorem str_eq_of {a b : ByteArray} (h : bytesOf a = bytesOf b) : a = b := by rw [← strOf_bytesOf a, ← strOf_bytesOf b, h]
theorem toL_self (a : ByteArray) : (a.toList == a.toList) = true := by simp
set_option maxHeartbeats 8000000 in
set_option maxRecDepth 100000 in
theorem walk (A_l : Option Addr) (n_l c_l : Nat) (ds_l : List Dc) (w : World) (h_l : DcR w A_l n_l c_l ds_l) (b_l : ∀ d ∈ ds_l, BytD d) (HT : FTab w) :
 Calls Tryz.prog 9 #[.slice A_l n_l c_l] w fun e w' => e = .returned (.bool true) ∧ Below w.heap.size w w' := by
 have HT0 := Lib.hid HT
 clear HT
 have HB1 := Lib.hid b_l
 clear b_l
 obtain ⟨lg, hlg⟩ : ∃ b, largeS ds_l = b := ⟨_, rfl⟩
 have HLG := Lib.hid hlg
 clear hlg
 have bw := bel_refl w
 go_enter Tryz.func9, Tryz.ntmps9
 go_wp2_with fail
 refine (kLargeS_c h_l lg HLG.out).mono ?_
 rintro e w1 ⟨rfl, bn⟩
 replace h_l := h_l.below bn
 replace bw := below_two bw bn
 clear bn
 cases lg with
 | true =>
  go_wp2_with fail
  refine (wakes_all w1 (Lib.hid (HT0.out.below bw))).mono ?_
  rintro e w1 ⟨rfl, bn⟩
  replace bw := below_two bw bn
  clear bn
  go_wp2
  go_ret
  exact ⟨rfl, bw⟩
 | false =>
  have HMD := Lib.hid (mildD_small HLG.out HB1.out)
  rcases scrW_cases ds_l with ⟨E, hs, hE⟩ | ⟨hs, hg, h60, h4⟩
  · have HSW : Hid ((strOf (scrW ds_l).1, (scrW ds_l).2) = ((⟨#[]⟩ : ByteArray), E)) := by show _ = _; rw [hs]; rfl
    have e0 : (E != 0) = true := by rw [bne_iff_ne]; exact hE
    clear hs hE
    go_wp2_with fail
    refine (wScript_c h_l HMD.out (HT0.out.below bw).wr ⟨#[]⟩ E HSW.out).mono ?_
    rintro e w1 ⟨rfl, bn⟩
    replace h_l := h_l.below bn
    replace bw := below_two bw bn
    clear bn
    go_wp2_with fail
    refine (wakes_all w1 (Lib.hid (HT0.out.below bw))).mono ?_
    rintro e w2 ⟨rfl, bn⟩
    replace h_l := h_l.below bn
    replace bw := below_two bw bn
    clear bn
    go_wp2
    go_ret
    exact ⟨rfl, bw⟩
  · obtain ⟨X, hX⟩ : ∃ X : ByteArray, strOf (linesL ds_l) = X := ⟨_, rfl⟩
    have HSW : Hid ((strOf (scrW ds_l).1, (scrW ds_l).2) = (X, (0 : Int))) := by show _ = _; rw [hs, ← hX]
    have HG := Lib.hid hg
    have hXb : bytesOf X = linesL ds_l := by rw [← hX]; exact bytesOf_strOf (linesL_bytes hg HMD.out)
    have HXb := Lib.hid hXb
    have hXl : X.size = (linesL ds_l).length := by rw [← hX, size_strOf]
    have HXl := Lib.hid hXl
    have hXs : X.size ≤ 4000 := by omega
    clear hs hg h60 h4 hX hXb hXl
    go_wp2_with fail
    refine (wScript_c h_l HMD.out (HT0.out.below bw).wr X 0 HSW.out).mono ?_
    rintro e w1 ⟨rfl, bn⟩
    replace h_l := h_l.below bn
    replace bw := below_two bw bn
    clear bn
    have hn := h_l.len
    obtain ⟨hc, hcm⟩ := h_l.caps
    have eq1 : maxLen = 9223372036854775807 := rfl
    have HN := Lib.hid hn
    have H := Lib.hid h_l
    have HB := Lib.hid bw
    clear hn h_l bw
    go_wp2
    go_loopw [5, 6, 7] (fun a b c wr => ∃ k o i : Nat, a = .int .i64 (k : Int) ∧ b = .int .i64 (o : Int) ∧ c = .int .i64 (i : Int) ∧ k ≤ n_l ∧ o ≤ i ∧ i ≤ X.size ∧ Hid (offL ds_l k = o ∧ (k < ds_l.length → i < offL ds_l (k + 1))) ∧ w1 = wr) (fun _ _ c _ => X.size - (intOf c).toNat)
    case atStart => exact ⟨0, 0, 0, rfl, rfl, rfl, Nat.zero_le _, Nat.zero_le _, Nat.zero_le _, ⟨rfl, fun h => by
     obtain ⟨d, hd⟩ : ∃ d, ds_l[0]? = some d := ⟨_, List.getElem?_eq_getElem h⟩
     rw [offL_next hd]; omega⟩, rfl⟩
    case round =>
     obtain ⟨k, o, i, rfl, rfl, rfl, hk, hoi, hi, HR, rfl⟩ := hrel
     by_cases hlt : i < X.size
     · skip
       have hkn : k < n_l := by
        rcases Nat.lt_or_ge k n_l with h | h
        · exact h
        · exfalso
          have h1 := HR.out.1
          rw [show k = ds_l.length by have := HN.out; omega, offL_all, ← HXl.out] at h1
          omega
       obtain ⟨d, hd⟩ : ∃ d, ds_l[k]? = some d := ⟨_, List.getElem?_eq_getElem (by rw [← HN.out]; exact hkn)⟩
       have hgd := HG.out d (List.mem_of_getElem? hd)
       have hnx := offL_next hd
       have hub := HR.out.2 (by rw [← HN.out]; exact hkn)
       rw [hnx, HR.out.1] at hub
       obtain ⟨L, hL⟩ : ∃ L, (bodyL d).length = L := ⟨_, rfl⟩
       rw [hL] at hub hnx
       obtain ⟨c, hc⟩ : ∃ c, (X[i]'hlt).toNat = c := ⟨_, rfl⟩
       have hcb : (linesL ds_l)[offL ds_l k + (i - o)]? = some c := by
        rw [HR.out.1, show o + (i - o) = i by omega, ← HXb.out]
        have h9 := Limb.byte_at X i hlt
        rw [hc] at h9
        have hlen : i < (bytesOf X).length := by rw [length_bytesOf]; exact hlt
        rw [List.getElem?_eq_getElem hlen]
        unfold lim at h9
        rw [List.getD_eq_getElem?_getD, List.getElem?_eq_getElem hlen] at h9
        rw [h9]; rfl
       have hcs := lines_nl hd hgd (j := i - o) (by omega) hcb
       rw [hL] at hcs
       clear hcb
       rcases hcs with ⟨h10, hj⟩ | ⟨h10, hj⟩
       · subst h10
         obtain rfl : i = o + L := by omega
         have HR2 : Hid (offL ds_l (k + 1) = o + L + 1 ∧ (k + 1 < ds_l.length → o + L + 1 < offL ds_l (k + 1 + 1))) := by
          refine ⟨by rw [hnx, HR.out.1], fun h => ?_⟩
          obtain ⟨d2, hd2⟩ : ∃ d, ds_l[k + 1]? = some d := ⟨_, List.getElem?_eq_getElem h⟩
          rw [offL_next hd2, hnx, HR.out.1]; omega
         have hkd := good_kind hgd
         have hdm := HMD.out d (List.mem_of_getElem? hd)
         obtain ⟨g, og, A1, n1, c1, nm, ot, nu, va, un, rfl, hg, hin, ht, u1, _, _, _, _⟩ := H.out.at2 hd
         obtain ⟨LN, hLN⟩ : ∃ Y : ByteArray, X.extract o (o + L) = Y := ⟨_, rfl⟩
         have hLb : bytesOf LN = bodyL d := by
          rw [← hLN, extract_bytes, HXb.out, List.drop_take, show o + L - o = L by omega, ← HR.out.1, ← hL]
          exact line_cut hd
         have hLs : LN.size = L := by rw [← length_bytesOf, hLb, hL]
         have hns : nm.size ≤ 1000000 := by rw [← u1, size_strOf]; exact hdm.sizes.1
         have hnb : bytesOf nm = d.nm := by rw [← u1]; exact bytesOf_strOf hdm.bytes.1
         have x1 : w1.cell? ⟨g, og + k * 9 + 1, none⟩ = some (.string nm) := hin 1 _ rfl
         have hk5 : d.k = 1 ∨ d.k = 2 ∨ d.k = 3 ∨ d.k = 4 ∨ d.k = 5 := by omega
         rcases hk5 with h1 | h1 | h1 | h1 | h1
         · have x0 : w1.cell? ⟨g, og + k * 9, none⟩ = some (.int .i64 1) := by have := hin 0 _ rfl; rw [h1] at this; exact this
           obtain ⟨HD, hHD⟩ : ∃ Y : ByteArray, (⟨#[117, 110, 105, 116, 32]⟩ : ByteArray) ++ nm ++ (⟨#[32]⟩ : ByteArray) = Y := ⟨_, rfl⟩
           have hHb : bodyL d = bytesOf HD ++ (restL d ++ [32, 59]) := by
            rw [body_head, ← hHD, bytesOf_append, bytesOf_append, hnb, h1]
            show _ = (([117, 110, 105, 116, 32] : List Nat) ++ d.nm ++ [32]) ++ _
            simp [wrdK]
           have hHs : HD.size + 2 ≤ LN.size := by
            have h2 := congrArg List.length hHb
            rw [hL, List.length_append, List.length_append, length_bytesOf] at h2
            rw [hLs, h2]; simp
           have hE1 : LN.extract 0 HD.size = HD := str_eq_of (by
            rw [extract_bytes, hLb, hHb, ← length_bytesOf HD, List.take_left, List.drop_zero])
           have hE2 : LN.extract (LN.size - 2) LN.size = ⟨#[32, 59]⟩ := str_eq_of (by
            obtain ⟨p, hp⟩ := body_end d
            have h3 := congrArg List.length hp
            rw [hL, List.length_append] at h3
            rw [extract_bytes, hLb, List.take_of_length_le (by rw [hL, hLs]; exact Nat.le_refl _), hp, hLs, h3, show p.length + ([32, 59] : List Nat).length - 2 = p.length from rfl, List.drop_left]
            rfl)
           have hHs2 : HD.size ≤ 4000 := by omega
           have hwn : ((⟨#[117, 110, 105, 116, 32]⟩ : ByteArray) ++ nm).size ≤ 1000010 := by rw [ByteArray.size_append]; show 5 + nm.size ≤ _; omega
           have hHne : ¬ HD.toList = [] := by
            intro e
            rw [ByteArray.toList_eq] at e
            have h9 : HD.data.size = 0 := by rw [← Array.length_toList, e]; rfl
            have h8 : HD.size = 0 := h9
            rw [← hHD, ByteArray.size_append] at h8
            have h7 : (⟨#[32]⟩ : ByteArray).size = 1 := rfl
            omega
           rw [hLs] at hE2 hHs
           have hE3 : ((LN.extract (L - 2) L).toList == [32, 59]) = true := by rw [hE2, ByteArray.toList_eq]; decide
           have hHs3 : ¬ ((L : Int) < (HD.size : Int) + 2) := by omega
           have HHD := Lib.hid hHD
           have HLN := Lib.hid hLN
           clear hHb hLb hnb hin hkd hdm hgd hd hL hnx hub hj ht h1 HR hHne
           go_upto_region 26 with fail
           try rw [HHD.out]
           go_upto_region 27 with fail
           try rw [HLN.out]
           go_wp2
           go_roundw
           case rel => exact ⟨k + 1, o + L + 1, o + L + 1, by go_num, by go_num, by go_num, hkn, Nat.le_refl _, by omega, HR2, by first | rfl | trivial⟩
           case measure => simp [intOf]; omega
         · have x0 : w1.cell? ⟨g, og + k * 9, none⟩ = some (.int .i64 2) := by have := hin 0 _ rfl; rw [h1] at this; exact this
           obtain ⟨HD, hHD⟩ : ∃ Y : ByteArray, (⟨#[115, 111, 117, 114, 99, 101, 32]⟩ : ByteArray) ++ nm ++ (⟨#[32]⟩ : ByteArray) = Y := ⟨_, rfl⟩
           have hHb : bodyL d = bytesOf HD ++ (restL d ++ [32, 59]) := by
            rw [body_head, ← hHD, bytesOf_append, bytesOf_append, hnb, h1]
            show _ = (([115, 111, 117, 114, 99, 101, 32] : List Nat) ++ d.nm ++ [32]) ++ _
            simp [wrdK]
           have hHs : HD.size + 2 ≤ LN.size := by
            have h2 := congrArg List.length hHb
            rw [hL, List.length_append, List.length_append, length_bytesOf] at h2
            rw [hLs, h2]; simp
           have hE1 : LN.extract 0 HD.size = HD := str_eq_of (by
            rw [extract_bytes, hLb, hHb, ← length_bytesOf HD, List.take_left, List.drop_zero])
           have hE2 : LN.extract (LN.size - 2) LN.size = ⟨#[32, 59]⟩ := str_eq_of (by
            obtain ⟨p, hp⟩ := body_end d
            have h3 := congrArg List.length hp
            rw [hL, List.length_append] at h3
            rw [extract_bytes, hLb, List.take_of_length_le (by rw [hL, hLs]; exact Nat.le_refl _), hp, hLs, h3, show p.length + ([32, 59] : List Nat).length - 2 = p.length from rfl, List.drop_left]
            rfl)
           have hHs2 : HD.size ≤ 4000 := by omega
           have hwn : ((⟨#[115, 111, 117, 114, 99, 101, 32]⟩ : ByteArray) ++ nm).size ≤ 1000010 := by rw [ByteArray.size_append]; show 7 + nm.size ≤ _; omega
           have hHne : ¬ HD.toList = [] := by
            intro e
            rw [ByteArray.toList_eq] at e
            have h9 : HD.data.size = 0 := by rw [← Array.length_toList, e]; rfl
            have h8 : HD.size = 0 := h9
            rw [← hHD, ByteArray.size_append] at h8
            have h7 : (⟨#[32]⟩ : ByteArray).size = 1 := rfl
            omega
           rw [hLs] at hE2 hHs
           have hE3 : ((LN.extract (L - 2) L).toList == [32, 59]) = true := by rw [hE2, ByteArray.toList_eq]; decide
           have hHs3 : ¬ ((L : Int) < (HD.size : Int) + 2) := by omega
           have HHD := Lib.hid hHD
           have HLN := Lib.hid hLN
           clear hHb hLb hnb hin hkd hdm hgd hd hL hnx hub hj ht h1 HR hHne
           go_upto_region 26 with fail
           try rw [HHD.out]
           go_upto_region 27 with fail
           try rw [HLN.out]
           go_wp2
           go_roundw
           case rel => exact ⟨k + 1, o + L + 1, o + L + 1, by go_num, by go_num, by go_num, hkn, Nat.le_refl _, by omega, HR2, by first | rfl | trivial⟩
           case measure => simp [intOf]; omega
         · have x0 : w1.cell? ⟨g, og + k * 9, none⟩ = some (.int .i64 3) := by have := hin 0 _ rfl; rw [h1] at this; exact this
           obtain ⟨HD, hHD⟩ : ∃ Y : ByteArray, (⟨#[99, 111, 118, 32]⟩ : ByteArray) ++ nm ++ (⟨#[32]⟩ : ByteArray) = Y := ⟨_, rfl⟩
           have hHb : bodyL d = bytesOf HD ++ (restL d ++ [32, 59]) := by
            rw [body_head, ← hHD, bytesOf_append, bytesOf_append, hnb, h1]
            show _ = (([99, 111, 118, 32] : List Nat) ++ d.nm ++ [32]) ++ _
            simp [wrdK]
           have hHs : HD.size + 2 ≤ LN.size := by
            have h2 := congrArg List.length hHb
            rw [hL, List.length_append, List.length_append, length_bytesOf] at h2
            rw [hLs, h2]; simp
           have hE1 : LN.extract 0 HD.size = HD := str_eq_of (by
            rw [extract_bytes, hLb, hHb, ← length_bytesOf HD, List.take_left, List.drop_zero])
           have hE2 : LN.extract (LN.size - 2) LN.size = ⟨#[32, 59]⟩ := str_eq_of (by
            obtain ⟨p, hp⟩ := body_end d
            have h3 := congrArg List.length hp
            rw [hL, List.length_append] at h3
            rw [extract_bytes, hLb, List.take_of_length_le (by rw [hL, hLs]; exact Nat.le_refl _), hp, hLs, h3, show p.length + ([32, 59] : List Nat).length - 2 = p.length from rfl, List.drop_left]
            rfl)
           have hHs2 : HD.size ≤ 4000 := by omega
           have hwn : ((⟨#[99, 111, 118, 32]⟩ : ByteArray) ++ nm).size ≤ 1000010 := by rw [ByteArray.size_append]; show 4 + nm.size ≤ _; omega
           have hHne : ¬ HD.toList = [] := by
            intro e
            rw [ByteArray.toList_eq] at e
            have h9 : HD.data.size = 0 := by rw [← Array.length_toList, e]; rfl
            have h8 : HD.size = 0 := h9
            rw [← hHD, ByteArray.size_append] at h8
            have h7 : (⟨#[32]⟩ : ByteArray).size = 1 := rfl
            omega
           rw [hLs] at hE2 hHs
           have hE3 : ((LN.extract (L - 2) L).toList == [32, 59]) = true := by rw [hE2, ByteArray.toList_eq]; decide
           have hHs3 : ¬ ((L : Int) < (HD.size : Int) + 2) := by omega
           have HHD := Lib.hid hHD
           have HLN := Lib.hid hLN
           clear hHb hLb hnb hin hkd hdm hgd hd hL hnx hub hj ht h1 HR hHne
           go_upto_region 26 with fail
           try rw [HHD.out]
           go_upto_region 27 with fail
           try rw [HLN.out]
           go_wp2
           go_roundw
           case rel => exact ⟨k + 1, o + L + 1, o + L + 1, by go_num, by go_num, by go_num, hkn, Nat.le_refl _, by omega, HR2, by first | rfl | trivial⟩
           case measure => simp [intOf]; omega
         · have x0 : w1.cell? ⟨g, og + k * 9, none⟩ = some (.int .i64 4) := by have := hin 0 _ rfl; rw [h1] at this; exact this
           obtain ⟨HD, hHD⟩ : ∃ Y : ByteArray, (⟨#[108, 101, 116, 32]⟩ : ByteArray) ++ nm ++ (⟨#[32]⟩ : ByteArray) = Y := ⟨_, rfl⟩
           have hHb : bodyL d = bytesOf HD ++ (restL d ++ [32, 59]) := by
            rw [body_head, ← hHD, bytesOf_append, bytesOf_append, hnb, h1]
            show _ = (([108, 101, 116, 32] : List Nat) ++ d.nm ++ [32]) ++ _
            simp [wrdK]
           have hHs : HD.size + 2 ≤ LN.size := by
            have h2 := congrArg List.length hHb
            rw [hL, List.length_append, List.length_append, length_bytesOf] at h2
            rw [hLs, h2]; simp
           have hE1 : LN.extract 0 HD.size = HD := str_eq_of (by
            rw [extract_bytes, hLb, hHb, ← length_bytesOf HD, List.take_left, List.drop_zero])
           have hE2 : LN.extract (LN.size - 2) LN.size = ⟨#[32, 59]⟩ := str_eq_of (by
            obtain ⟨p, hp⟩ := body_end d
            have h3 := congrArg List.length hp
            rw [hL, List.length_append] at h3
            rw [extract_bytes, hLb, List.take_of_length_le (by rw [hL, hLs]; exact Nat.le_refl _), hp, hLs, h3, show p.length + ([32, 59] : List Nat).length - 2 = p.length from rfl, List.drop_left]
            rfl)
           have hHs2 : HD.size ≤ 4000 := by omega
           have hwn : ((⟨#[108, 101, 116, 32]⟩ : ByteArray) ++ nm).size ≤ 1000010 := by rw [ByteArray.size_append]; show 4 + nm.size ≤ _; omega
           have hHne : ¬ HD.toList = [] := by
            intro e
            rw [ByteArray.toList_eq] at e
            have h9 : HD.data.size = 0 := by rw [← Array.length_toList, e]; rfl
            have h8 : HD.size = 0 := h9
            rw [← hHD, ByteArray.size_append] at h8
            have h7 : (⟨#[32]⟩ : ByteArray).size = 1 := rfl
            omega
           rw [hLs] at hE2 hHs
           have hE3 : ((LN.extract (L - 2) L).toList == [32, 59]) = true := by rw [hE2, ByteArray.toList_eq]; decide
           have hHs3 : ¬ ((L : Int) < (HD.size : Int) + 2) := by omega
           have HHD := Lib.hid hHD
           have HLN := Lib.hid hLN
           clear hHb hLb hnb hin hkd hdm hgd hd hL hnx hub hj ht h1 HR hHne
           go_upto_region 26 with fail
           try rw [HHD.out]
           go_upto_region 27 with fail
           try rw [HLN.out]
           go_wp2
           go_roundw
           case rel => exact ⟨k + 1, o + L + 1, o + L + 1, by go_num, by go_num, by go_num, hkn, Nat.le_refl _, by omega, HR2, by first | rfl | trivial⟩
           case measure => simp [intOf]; omega
         · have x0 : w1.cell? ⟨g, og + k * 9, none⟩ = some (.int .i64 5) := by have := hin 0 _ rfl; rw [h1] at this; exact this
           obtain ⟨HD, hHD⟩ : ∃ Y : ByteArray, (⟨#[111, 117, 116, 112, 117, 116, 32]⟩ : ByteArray) ++ nm ++ (⟨#[32]⟩ : ByteArray) = Y := ⟨_, rfl⟩
           have hHb : bodyL d = bytesOf HD ++ (restL d ++ [32, 59]) := by
            rw [body_head, ← hHD, bytesOf_append, bytesOf_append, hnb, h1]
            show _ = (([111, 117, 116, 112, 117, 116, 32] : List Nat) ++ d.nm ++ [32]) ++ _
            simp [wrdK]
           have hHs : HD.size + 2 ≤ LN.size := by
            have h2 := congrArg List.length hHb
            rw [hL, List.length_append, List.length_append, length_bytesOf] at h2
            rw [hLs, h2]; simp
           have hE1 : LN.extract 0 HD.size = HD := str_eq_of (by
            rw [extract_bytes, hLb, hHb, ← length_bytesOf HD, List.take_left, List.drop_zero])
           have hE2 : LN.extract (LN.size - 2) LN.size = ⟨#[32, 59]⟩ := str_eq_of (by
            obtain ⟨p, hp⟩ := body_end d
            have h3 := congrArg List.length hp
            rw [hL, List.length_append] at h3
            rw [extract_bytes, hLb, List.take_of_length_le (by rw [hL, hLs]; exact Nat.le_refl _), hp, hLs, h3, show p.length + ([32, 59] : List Nat).length - 2 = p.length from rfl, List.drop_left]
            rfl)
           have hHs2 : HD.size ≤ 4000 := by omega
           have hwn : ((⟨#[111, 117, 116, 112, 117, 116, 32]⟩ : ByteArray) ++ nm).size ≤ 1000010 := by rw [ByteArray.size_append]; show 7 + nm.size ≤ _; omega
           have hHne : ¬ HD.toList = [] := by
            intro e
            rw [ByteArray.toList_eq] at e
            have h9 : HD.data.size = 0 := by rw [← Array.length_toList, e]; rfl
            have h8 : HD.size = 0 := h9
            rw [← hHD, ByteArray.size_append] at h8
            have h7 : (⟨#[32]⟩ : ByteArray).size = 1 := rfl
            omega
           rw [hLs] at hE2 hHs
           have hE3 : ((LN.extract (L - 2) L).toList == [32, 59]) = true := by rw [hE2, ByteArray.toList_eq]; decide
           have hHs3 : ¬ ((L : Int) < (HD.size : Int) + 2) := by omega
           have HHD := Lib.hid hHD
           have HLN := Lib.hid hLN
           clear hHb hLb hnb hin hkd hdm hgd hd hL hnx hub hj ht h1 HR hHne
           go_upto_region 26 with fail
           try rw [HHD.out]
           go_upto_region 27 with fail
           try rw [HLN.out]
           go_wp2
           go_roundw
           case rel => exact ⟨k + 1, o + L + 1, o + L + 1, by go_num, by go_num, by go_num, hkn, Nat.le_refl _, by omega, HR2, by first | rfl | trivial⟩
           case measure => simp [intOf]; omega
       · have e10 : ((c : Int) != 10) = true := by rw [bne_iff_ne]; omega
         have HR2 : Hid (offL ds_l k = o ∧ (k < ds_l.length → i + 1 < offL ds_l (k + 1))) := ⟨HR.out.1, fun _ => by rw [hnx, HR.out.1]; omega⟩
         clear h10 hj hub hnx hL hgd hd HR
         go_wp2
         go_roundw
         case rel => exact ⟨k, o, i + 1, rfl, rfl, by go_num, hk, by omega, hlt, HR2, by first | rfl | trivial⟩
         case measure => simp [intOf]; omega
     · obtain rfl : X.size = i := by omega
       have hkn : n_l = k := by
        rcases Nat.lt_or_ge k n_l with h | h
        · exfalso
          have h1 := HR.out.2 (by rw [← HN.out]; exact h)
          have h2 := offL_le ds_l (k + 1)
          rw [← HXl.out] at h2
          omega
        · omega
       subst hkn
       have ho : o = X.size := by rw [← HR.out.1, HN.out, offL_all, HXl.out]
       subst ho
       have bw := HB.out
       clear HR
       go_wp2_with fail
       refine (wakes_all w1 (Lib.hid (HT0.out.below bw))).mono ?_
       rintro e w2 ⟨rfl, bn⟩
       replace bw := below_two bw bn
       clear bn
       go_wp2
       go_ret
       exact ⟨rfl, bw⟩
theorem tab_of {W : World} (h : laidMet Tryz.prog Rows.writeLinesRow.laid W) : FTab W := by
 refine ⟨⟨⟨?_, ?_⟩, ?_, ?_, ?_⟩, ?_, ?_⟩
 · first | exact kinds_tab (laidMet_drop 0 h) (by decide +kernel) | exact kinds_tab (laidMet_drop 1 h) (by decide +kernel) | exact kinds_tab (laidMet_drop 2 h) (by decide +kernel) | exact kinds_tab (laidMet_drop 3 h) (by decide +kernel) | exact kinds_tab (laidMet_drop 4 h) (by decide +kernel) | exact kinds_tab (laidMet_drop 5 h) (by decide +kernel) | exact kinds_tab (laidMet_drop 6 h) (by decide +kernel) | exact kinds_tab (laidMet_drop 7 h) (by decide +kernel) | exact kinds_tab (laidMet_drop 8 h) (by decide +kernel) | exact kinds_tab (laidMet_drop 9 h) (by decide +kernel) | exact kinds_tab (laidMet_drop 10 h) (by decide +kernel) | exact kinds_tab (laidMet_drop 11 h) (by decide +kernel) | exact kinds_tab (laidMet_drop 12 h) (by decide +kernel) | exact kinds_tab (laidMet_drop 13 h) (by decide +kernel)
 · first | exact lkinds_tab (laidMet_drop 0 h) (by decide +kernel) | exact lkinds_tab (laidMet_drop 1 h) (by decide +kernel) | exact lkinds_tab (laidMet_drop 2 h) (by decide +kernel) | exact lkinds_tab (laidMet_drop 3 h) (by decide +kernel) | exact lkinds_tab (laidMet_drop 4 h) (by decide +kernel) | exact lkinds_tab (laidMet_drop 5 h) (by decide +kernel) | exact lkinds_tab (laidMet_drop 6 h) (by decide +kernel) | exact lkinds_tab (laidMet_drop 7 h) (by decide +kernel) | exact lkinds_tab (laidMet_drop 8 h) (by decide +kernel) | exact lkinds_tab (laidMet_drop 9 h) (by decide +kernel) | exact lkinds_tab (laidMet_drop 10 h) (by decide +kernel) | exact lkinds_tab (laidMet_drop 11 h) (by decide +kernel) | exact lkinds_tab (laidMet_drop 12 h) (by decide +kernel) | exact lkinds_tab (laidMet_drop 13 h) (by decide +kernel)
 · first | exact words_tab (laidMet_drop 0 h) (by decide +kernel) | exact words_tab (laidMet_drop 1 h) (by decide +kernel) | exact words_tab (laidMet_drop 2 h) (by decide +kernel) | exact words_tab (laidMet_drop 3 h) (by decide +kernel) | exact words_tab (laidMet_drop 4 h) (by decide +kernel) | exact words_tab (laidMet_drop 5 h) (by decide +kernel) | exact words_tab (laidMet_drop 6 h) (by decide +kernel) | exact words_tab (laidMet_drop 7 h) (by decide +kernel) | exact words_tab (laidMet_drop 8 h) (by decide +kernel) | exact words_tab (laidMet_drop 9 h) (by decide +kernel) | exact words_tab (laidMet_drop 10 h) (by decide +kernel) | exact words_tab (laidMet_drop 11 h) (by decide +kernel) | exact words_tab (laidMet_drop 12 h) (by decide +kernel) | exact words_tab (laidMet_drop 13 h) (by decide +kernel)
 · first | exact errs_tab (laidMet_drop 0 h) (by decide +kernel) | exact errs_tab (laidMet_drop 1 h) (by decide +kernel) | exact errs_tab (laidMet_drop 2 h) (by decide +kernel) | exact errs_tab (laidMet_drop 3 h) (by decide +kernel) | exact errs_tab (laidMet_drop 4 h) (by decide +kernel) | exact errs_tab (laidMet_drop 5 h) (by decide +kernel) | exact errs_tab (laidMet_drop 6 h) (by decide +kernel) | exact errs_tab (laidMet_drop 7 h) (by decide +kernel) | exact errs_tab (laidMet_drop 8 h) (by decide +kernel) | exact errs_tab (laidMet_drop 9 h) (by decide +kernel) | exact errs_tab (laidMet_drop 10 h) (by decide +kernel) | exact errs_tab (laidMet_drop 11 h) (by decide +kernel) | exact errs_tab (laidMet_drop 12 h) (by decide +kernel) | exact errs_tab (laidMet_drop 13 h) (by decide +kernel)
 · first | exact errr_tab (laidMet_drop 0 h) (by decide +kernel) | exact errr_tab (laidMet_drop 1 h) (by decide +kernel) | exact errr_tab (laidMet_drop 2 h) (by decide +kernel) | exact errr_tab (laidMet_drop 3 h) (by decide +kernel) | exact errr_tab (laidMet_drop 4 h) (by decide +kernel) | exact errr_tab (laidMet_drop 5 h) (by decide +kernel) | exact errr_tab (laidMet_drop 6 h) (by decide +kernel) | exact errr_tab (laidMet_drop 7 h) (by decide +kernel) | exact errr_tab (laidMet_drop 8 h) (by decide +kernel) | exact errr_tab (laidMet_drop 9 h) (by decide +kernel) | exact errr_tab (laidMet_drop 10 h) (by decide +kernel) | exact errr_tab (laidMet_drop 11 h) (by decide +kernel) | exact errr_tab (laidMet_drop 12 h) (by decide +kernel) | exact errr_tab (laidMet_drop 13 h) (by decide +kernel)
 · first | exact bonds_tab (laidMet_drop 0 h) (by decide +kernel) | exact bonds_tab (laidMet_drop 1 h) (by decide +kernel) | exact bonds_tab (laidMet_drop 2 h) (by decide +kernel) | exact bonds_tab (laidMet_drop 3 h) (by decide +kernel) | exact bonds_tab (laidMet_drop 4 h) (by decide +kernel) | exact bonds_tab (laidMet_drop 5 h) (by decide +kernel) | exact bonds_tab (laidMet_drop 6 h) (by decide +kernel) | exact bonds_tab (laidMet_drop 7 h) (by decide +kernel) | exact bonds_tab (laidMet_drop 8 h) (by decide +kernel) | exact bonds_tab (laidMet_drop 9 h) (by decide +kernel) | exact bonds_tab (laidMet_drop 10 h) (by decide +kernel) | exact bonds_tab (laidMet_drop 11 h) (by decide +kernel) | exact bonds_tab (laidMet_drop 12 h) (by decide +kernel) | exact bonds_tab (laidMet_drop 13 h) (by decide +kernel)
 · first | exact p10_tab (laidMet_drop 0 h) (by decide +kernel) | exact p10_tab (laidMet_drop 1 h) (by decide +kernel) | exact p10_tab (laidMet_drop 2 h) (by decide +kernel) | exact p10_tab (laidMet_drop 3 h) (by decide +kernel) | exact p10_tab (laidMet_drop 4 h) (by decide +kernel) | exact p10_tab (laidMet_drop 5 h) (by decide +kernel) | exact p10_tab (laidMet_drop 6 h) (by decide +kernel) | exact p10_tab (laidMet_drop 7 h) (by decide +kernel) | exact p10_tab (laidMet_drop 8 h) (by decide +kernel) | exact p10_tab (laidMet_drop 9 h) (by decide +kernel) | exact p10_tab (laidMet_drop 10 h) (by decide +kernel) | exact p10_tab (laidMet_drop 11 h) (by decide +kernel) | exact p10_tab (laidMet_drop 12 h) (by decide +kernel) | exact p10_tab (laidMet_drop 13 h) (by decide +kernel)
set_option maxRecDepth 100000 in
theorem lifted (os : Os) (started : os.Started) (H : Type) (enc : TypeId × Value → H) :
 ReturnsInHanded {} Tryz.checked os 9 .any (fun w args => (Rows.writeLinesSpec.pre enc Tryz.prog Tryz.f9 [] false w args ∧ laidMetH Tryz.prog Rows.writeLinesRow.laid w) ∧ sizedMet enc Tryz.prog Tryz.f9 (OpenSpec.ofChange Rows.writeLinesSpec) false w args)
  (Rows.writeLinesSpec.post enc Tryz.prog Tryz.f9 false true false false) := by
 refine returnsInHanded_of_change_and (C := Tryz.checked) (X := fun w _ => laidMetH Tryz.prog Rows.writeLinesRow.laid w) (fun _ _ _ hh h => h.of_heap hh) own started (by kernel_rfl) Tryz.func9
  (ChangeSpec.witness_shaped (enc := enc) (C := Tryz.checked) (os := os) (X := fun w _ => laidMetH Tryz.prog Rows.writeLinesRow.laid w) false (World.laidAll Tryz.prog os Rows.writeLinesRow.laid) #[.slice none 0 0] 8 (World.laidAll_os _ _ _)
    (World.shaped_of_ZipB (by kernel_rfl) (by kernel_rfl)) (by kernel_rfl) (by kernel_rfl) (by kernel_rfl)
    (by rw [MakeChecks.laidMetH_plain _ _ _ (by kernel_rfl)]; exact laidMet_laidAll _ (by kernel_rfl) (by kernel_rfl))) ?_
 intro W base args ds gs before hval0 hW _ _ hL _
 have hval : ∀ (j : Nat) t v, Tryz.f9.params[j]? = some t → args[j]? = some v → Value.okWide Tryz.prog W .any base t v := hval0
 have hW' := hW
 obtain ⟨p, q, hA0, hV, rfl, hfz, hnd⟩ := hW
 have hA : DataW.TrodAll enc Tryz.prog W 0 (fun _ => true) true Tryz.f9.params.toList args.toList ds p := hA0
 rw [Tryz.params9] at hA hval
 obtain ⟨v0, vs0, d0, ds0, p0, q0, hargs, rfl, rfl, h0, r0⟩ := trodAll_cons hA
 obtain ⟨rfl, rfl, rfl⟩ := trodAll_nil r0
 obtain rfl : args = #[v0] := by cases args; simp_all
 obtain ⟨rfl, rfl⟩ := trodVars_none hV
 obtain ⟨a0, len0, cap0, rfl⟩ := okWide_slice Tryz.underlying26 (hval 0 26 v0 rfl rfl)
 obtain ⟨z0, i0, y0⟩ := open_script h0
 clear hA0 hval0
 simp only [List.append_nil] at hW'
 rw [MakeChecks.laidMetH_plain _ _ _ (by kernel_rfl)] at hL
 refine (walk a0 len0 cap0 z0 W i0 y0 (tab_of hL)).mono fun e W' ⟨he, bel⟩ => ?_
 subst he
 exact ⟨_, rfl, _, _, _, [], _, [], hW', trodAll_mk1 (shut_bool Tryz.underlying4 _), (trodAll_cons_mk (Below.trod laidOut (by kernel_rfl) (of_decide_eq_true (by kernel_rfl)) h0 bel (places_lt h0)) trodAll_mk0), rfl, bel.frame _, fun h => by cases h⟩
theorem over : Rows.writeLinesRow.holds Tryz.pinned (OpenSpec.ofChange Rows.writeLinesSpec) :=
 OpenClaim.holds_of_wide 9 Tryz.f9 rfl rfl rfl rfl rfl rfl rfl ⟨rfl, rfl, rfl, rfl, rfl⟩ rfl rfl rfl rfl rfl (by kernel_rfl) Tryz.func9 (by kernel_rfl)
  (of_decide_eq_true (by kernel_rfl)) (by unfold Func.isWrapper; first | (rw [if_pos (by decide +kernel)]; kernel_rfl) | (rw [if_neg (by decide +kernel)]; exact ⟨rfl, rfl⟩))
  (fun os started H enc _ => lifted os started H enc)
theorem proved : Rows.WriteLinesCardSaid :=
 Claim7.holds_tied_plain_at .later [] Rows.writeLinesCard.laidKinds true Rows.writeLinesCard.stood.harness Rows.writeLinesCard.stood.looks
  over (fun _ h => by cases h) (by kernel_rfl) (fun _ h => by cases h) writeLines_row_tie rfl ⟨rfl, rfl⟩ (by kernel_rfl) rfl
  (fun f fn hf hfn => by
    obtain rfl : f = 9 := Option.some.inj ((show Tryz.prog.funcNamed Rows.writeLinesRow.func = some 9 by kernel_rfl).symm.trans hf) |>.symm
    obtain rfl : fn = Tryz.f9 := (Option.some.inj (Tryz.func9.symm.trans hfn)).symm
    exact ⟨by kernel_rfl, fun j t ht => by
     have hm : t ∈ Tryz.f9.params.toList := by simpa using Array.mem_of_getElem? ht
     have hall : (Tryz.f9.params.toList.all fun u => !Tryz.prog.wantsStandIn u) = true := by kernel_rfl
     exact (show Tryz.prog.wantsStandIn t = false by simpa using List.all_eq_true.1 hall t hm)⟩)
  (by kernel_rfl)
end Go.Proofs.YtannifhcjcbkcaaGreatDoor.lawWriteLines
