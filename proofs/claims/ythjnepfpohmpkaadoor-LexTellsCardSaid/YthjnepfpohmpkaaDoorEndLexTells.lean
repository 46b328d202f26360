/- LexTells is true at every input: the tokens of any text, or where none begins, are those of the reference; so is whether any text is a name. Conditions: the given statement's own (the tables of kinds read as the card ties them). -/
import Derived.Test.YthjnepfpohmpkaaDoorM3
import Derived.Test.YthjnepfpohmpkaaDoorCards
import Derived.Test.YthjnepfpohmpkaaDoorTie
import Derived.ChangeMaps5
import Derived.Lay
import Derived.SevenTiedAt
/- The regions of the reference of layer 13 that put a token behind the row in a box. No condition. -/
namespace Go.Proofs.YthjnepfpohmpkaaDoor
open Go.RowKit Limb
set_option linter.unusedVariables false
def regionIn : Code → Nat → Option (List Oper)
 | .region id ops _, k => if id = k then some ops.toList else none
 | .seq a b, k => (regionIn a k).orElse fun _ => regionIn b k
 | .cond _ a b, k => (regionIn a k).orElse fun _ => regionIn b k
 | .block _ b, k => regionIn b k
 | .loop b, k => regionIn b k
 | .scope b, k => regionIn b k
 | .rangeFunc _ _ a b, k => (regionIn a k).orElse fun _ => regionIn b k
 | _, _ => none
theorem wp_of_eq {P : Program} {Q : Exit → Act → World → Prop} {a : Act} {w : World} {c c' : Code} (h : c = c') (hw : c'.wp P Q a w) : c.wp P Q a w := h ▸ hw
set_option maxHeartbeats 4000000 in
set_option maxRecDepth 100000 in
theorem rxReg19 {Q : Exit → Act → World → Prop} {w wr : World} {s U : ByteArray} {q2 q3 B S0 p n c : Nat} {A : Option Addr} {us : List Tk} {t : List Nat} {TO : Int}
 {x1 x5 x7 x8 x9 x10 x11 x12 x13 x14 x15 x16 x17 x18 x19 x20 x21 x22 x23 x24 x25 x26 x27 x28 x29 x30 x31 x32 x33 x34 x35 x36 x37 x38 x39 x40 x41 x42 x43 x44 x45 x46 x47 x48 x49 x50 x51 x52 x53 x54 x55 x56 x57 x58 x59 x60 x61 x62 x63 x64 x65 x66 x67 x68 x69 x70 x71 x72 x73 x74 x75 x76 x77 x78 x79 x80 x81 x82 x83 x84 x85 x86 x87 x88 x89 x90 x91 x92 x93 x94 x95 x96 x97 x98 x99 x100 x101 x102 x103 x104 x105 x106 x107 x108 x109 x110 x111 x112 x113 x114 x115 x116 x117 x118 x119 x120 x121 x122 x123 x124 x125 x126 x127 x128 x129 x130 x131 x132 x133 x134 x135 x136 x137 x138 x139 x140 x141 x142 x143 x144 x145 x146 x147 x148 x149 x150 x151 x152 x153 x154 x155 x156 x157 x158 x159 x160 x161 x162 x163 x164 x165 x166 x167 x168 x169 x170 x171 x172 x173 x174 x175 x176 x177 x178 x179 x180 x181 x182 x183 x184 x185 x186 x187 x188 x189 x190 x191 x192 x193 x194 x195 x196 x197 x198 x199 x200 x201 x202 x203 x204 x205 x206 x207 x208 x209 x210 x211 x212 x213 x214 x215 x216 x217 x218 x219 x220 x221 x222 x223 x224 x225 x226 x227 x228 x229 x230 x231 x232 x233 x234 x235 x236 x237 x238 x239 x240 x241 x242 x243 : Value}
 (HQ3 : Hid (RowA wr q3 30 (gotX A n c 0 0))) (HQ2 : Hid (RowA wr q2 30 (gotX none 0 0 0 0))) (HO : Hid (OwnR wr B 36 3 A n c (tkCells us))) (HB : Hid (Below w.heap.size w wr))
 (hB0 : Hid (w.heap.size ≤ B)) (hq2B : Hid (q2 < B)) (hq3B : Hid (q3 < B)) (hq23 : Hid (q3 ≠ q2)) (hq3b : Hid (w.heap.size ≤ q3)) (hS0 : Hid (S0 = wr.heap.size)) (hBS : Hid (B ≤ S0)) (hOw : Hid (∀ g, Value.ownBlock (.slice A n c) = some g → B ≤ g ∧ g < S0)) (hn4 : n ≤ 4000) (hp4 : p ≤ 4000)
 (Hsl : Hid (∀ W, (Instr.slice 9 (.string s) (some (.int .i64 (p : Int))) (some (.int .i64 TO)) none).run Tryd.prog W = .ok (.string U) W)) (hUt : Hid (strOf t = U))
 (hQ : ∀ c (t t' : Array Value) (d : List Deferred) w, Q (.panic c) ⟨t, d⟩ w → Q (.panic c) ⟨t', d⟩ w)
 (hK : ∀ (A2 : Option Addr) (c2 : Nat) (wN : World) (y78 y79 y80 y81 y82 y83 y84 y85 y86 y87 y88 : Value), Hid (RowA wN q3 30 (gotX A2 (n + 1) c2 0 0)) → Hid (RowA wN q2 30 (gotX none 0 0 0 0)) → Hid (OwnR wN B 36 3 A2 (n + 1) c2 (tkCells (us ++ [(1, t, p)]))) → n + 1 ≤ c2 → Hid (B ≤ wN.heap.size) → Hid (Below w.heap.size w wN) → Q .normal ⟨#[.string s, x1, .pointer (some ⟨q2, 0, none⟩), .pointer (some ⟨q3, 0, none⟩), .int .i64 (p : Int), x5, .int .i64 TO, x7, x8, x9, x10, x11, x12, x13, x14, x15, x16, x17, x18, x19, x20, x21, x22, x23, x24, x25, x26, x27, x28, x29, x30, x31, x32, x33, x34, x35, x36, x37, x38, x39, x40, x41, x42, x43, x44, x45, x46, x47, x48, x49, x50, x51, x52, x53, x54, x55, x56, x57, x58, x59, x60, x61, x62, x63, x64, x65, x66, x67, x68, x69, x70, x71, x72, x73, x74, x75, x76, x77, y78, y79, y80, y81, y82, y83, y84, y85, y86, y87, y88, x89, x90, x91, x92, x93, x94, x95, x96, x97, x98, x99, x100, x101, x102, x103, x104, x105, x106, x107, x108, x109, x110, x111, x112, x113, x114, x115, x116, x117, x118, x119, x120, x121, x122, x123, x124, x125, x126, x127, x128, x129, x130, x131, x132, x133, x134, x135, x136, x137, x138, x139, x140, x141, x142, x143, x144, x145, x146, x147, x148, x149, x150, x151, x152, x153, x154, x155, x156, x157, x158, x159, x160, x161, x162, x163, x164, x165, x166, x167, x168, x169, x170, x171, x172, x173, x174, x175, x176, x177, x178, x179, x180, x181, x182, x183, x184, x185, x186, x187, x188, x189, x190, x191, x192, x193, x194, x195, x196, x197, x198, x199, x200, x201, x202, x203, x204, x205, x206, x207, x208, x209, x210, x211, x212, x213, x214, x215, x216, x217, x218, x219, x220, x221, x222, x223, x224, x225, x226, x227, x228, x229, x230, x231, x232, x233, x234, x235, x236, x237, x238, x239, x240, x241, x242, x243], []⟩ wN) :
 (Code.region 19 (((Tryd.f9.body.bind fun b => regionIn b 19)).getD []).toArray true).wp Tryd.prog Q ⟨#[.string s, x1, .pointer (some ⟨q2, 0, none⟩), .pointer (some ⟨q3, 0, none⟩), .int .i64 (p : Int), x5, .int .i64 TO, x7, x8, x9, x10, x11, x12, x13, x14, x15, x16, x17, x18, x19, x20, x21, x22, x23, x24, x25, x26, x27, x28, x29, x30, x31, x32, x33, x34, x35, x36, x37, x38, x39, x40, x41, x42, x43, x44, x45, x46, x47, x48, x49, x50, x51, x52, x53, x54, x55, x56, x57, x58, x59, x60, x61, x62, x63, x64, x65, x66, x67, x68, x69, x70, x71, x72, x73, x74, x75, x76, x77, x78, x79, x80, x81, x82, x83, x84, x85, x86, x87, x88, x89, x90, x91, x92, x93, x94, x95, x96, x97, x98, x99, x100, x101, x102, x103, x104, x105, x106, x107, x108, x109, x110, x111, x112, x113, x114, x115, x116, x117, x118, x119, x120, x121, x122, x123, x124, x125, x126, x127, x128, x129, x130, x131, x132, x133, x134, x135, x136, x137, x138, x139, x140, x141, x142, x143, x144, x145, x146, x147, x148, x149, x150, x151, x152, x153, x154, x155, x156, x157, x158, x159, x160, x161, x162, x163, x164, x165, x166, x167, x168, x169, x170, x171, x172, x173, x174, x175, x176, x177, x178, x179, x180, x181, x182, x183, x184, x185, x186, x187, x188, x189, x190, x191, x192, x193, x194, x195, x196, x197, x198, x199, x200, x201, x202, x203, x204, x205, x206, x207, x208, x209, x210, x211, x212, x213, x214, x215, x216, x217, x218, x219, x220, x221, x222, x223, x224, x225, x226, x227, x228, x229, x230, x231, x232, x233, x234, x235, x236, x237, x238, x239, x240, x241, x242, x243], []⟩ wr := by
 show (Code.region 19 (List.toArray [_, _, _, _, _, _, _, _, _, _, _, _]) true).wp _ _ _ _
 refine region_freeS 11 1 [some 78, some 79, some 80, some 81, some 82, some 83, some 84, some 85, some 86, some 87, some 88] ?aFq1 (ApR 9 A n c) (ApS w q2 q3 B S0 A n c us 9) (fun k vv wx => match k with
  | 0 => vv = .pointer (some ⟨q3, 0, none⟩)
  | 1 => vv = .slice A n c
  | 2 => vv = .string s
  | 3 => vv = .int .i64 (p : Int)
  | 4 => vv = .int .i64 TO
  | 5 => vv = .string U
  | 6 => vv = .int .i64 (p : Int)
  | 7 => vv = .agg (tkC 1 U p)
  | 8 => ∃ g, vv = .slice (some ⟨g, 0, none⟩) 1 1 ∧ RowA wx g 36 (tkC 1 U p) ∧ S0 ≤ g
  | 9 => ∃ A2 c2, vv = .slice A2 (n + 1) c2 ∧ OwnR wx B 36 3 A2 (n + 1) c2 (tkCells us ++ (tkC 1 U p).toList)
  | _ => vv = .pointer (some ⟨q3, 0, none⟩))
  (by kernel_rfl) ?haFq1 rfl (by kernel_rfl) (by kernel_rfl) hQ ?hSbq1 ?hPbq1 ?hSq1 ?hopq1 ?hfinq1
 case haFq1 =>
  intro vals
  simp only [fillAll, dAt, Act.put, List.setIfInBounds_toArray, List.set_cons_zero, List.set_cons_succ]
  exact rfl
 case hSbq1 => exact fun i l wx wy hi hl hR h => ApS.step hB0.out hq2B.out hq3B.out hBS.out hl hR h
 case hPbq1 =>
  intro k j v wa wb hk hkj hb h
  match j, h with
  | 0, h => exact h
  | 1, h => exact h
  | 2, h => exact h
  | 3, h => exact h
  | 4, h => exact h
  | 5, h => exact h
  | 6, h => exact h
  | 7, h => exact h
  | 8, ⟨g, e1, g1, g2⟩ => exact ⟨g, e1, hb.row g1 (fun e => by have := (hOw.out g e).2; omega), g2⟩
  | 9, ⟨A2, c2, e1, g1⟩ =>
   unfold ApR at hb
   rw [if_neg (by omega)] at hb
   exact ⟨A2, c2, e1, g1.below hb⟩
  | _ + 10, h => exact h
 case hSq1 => exact ⟨HQ3.out, HQ2.out, by rw [hS0.out]; exact Nat.le_refl _, HB.out.drew, fun _ => HO.out⟩
 case hopq1 =>
  refine .cons (k := 0) ?_ (.cons (k := 1) ?_ (.cons (k := 2) ?_ (.cons (k := 3) ?_ (.cons (k := 4) ?_ (.cons (k := 5) ?_ (.cons (k := 6) ?_ (.cons (k := 7) ?_ (.cons (k := 8) ?_ (.cons (k := 9) ?_ (.cons (k := 10) ?_ (.nil)))))))))))
  all_goals intro vals wr l hl hS hd KC hKx
  all_goals (show Oper.wp _ _ _ _ _ _; dsimp only)
  · go_simp
    refine hKx _ _ rfl (ApR.of (Below.refl _ _) (by decide)) (by first | rfl | simp)
  · have d0 : vals 0 = _ := hd 0 (by decide +kernel)
    rw [d0]
    have c0 := hS.1.cell (k := 0) rfl
    go_simp
    refine hKx _ _ rfl (ApR.of (Below.refl _ _) (by decide)) (by first | rfl | simp)
  · go_simp
    refine hKx _ _ rfl (ApR.of (Below.refl _ _) (by decide)) (by first | rfl | simp)
  · go_simp
    refine hKx _ _ rfl (ApR.of (Below.refl _ _) (by decide)) (by first | rfl | simp)
  · go_simp
    refine hKx _ _ rfl (ApR.of (Below.refl _ _) (by decide)) (by first | rfl | simp)
  · have d2 : vals 2 = _ := hd 2 (by decide +kernel)
    have d3 : vals 3 = _ := hd 3 (by decide +kernel)
    have d4 : vals 4 = _ := hd 4 (by decide +kernel)
    rw [d2, d3, d4]
    have hsl : ∀ W, (Instr.slice 9 (.string s) (some (.int .i64 (p : Int))) (some (.int .i64 TO)) none).run Tryd.prog W = .ok (.string U) W := fun W => by
     have h := Hsl.out W
     exact h
    go_simp
    refine hKx _ _ rfl (ApR.of (Below.refl _ _) (by decide)) (by first | rfl | simp)
  · go_simp
    refine hKx _ _ rfl (ApR.of (Below.refl _ _) (by decide)) (by first | rfl | simp)
  · have d5 : vals 5 = _ := hd 5 (by decide +kernel)
    have d6 : vals 6 = _ := hd 6 (by decide +kernel)
    rw [d5, d6]
    go_simp
    refine hKx _ _ rfl (ApR.of (Below.refl _ _) (by decide)) (by first | rfl | simp)
  · have d7 : vals 7 = _ := hd 7 (by decide +kernel)
    rw [d7]
    go_simp
    refine hKx _ _ rfl (ApR.of (below_new _ _) (by decide)) ⟨_, rfl, rowA_new wr _ _, hS.2.2.1⟩
  · have d1 : vals 1 = _ := hd 1 (by decide +kernel)
    obtain ⟨g, d8, g1, g2⟩ := hd 8 (by decide +kernel)
    rw [d1, d8]
    have HOx := Lib.hid (hS.2.2.2.2 hl)
    have HLx : Hid (RowA wr g 36 (tkC 1 U p) ∧ (tkC 1 U p).size = 3 ∧ ∀ v ∈ tkC 1 U p, v.oneCell' = true) := ⟨g1, rfl, by simp [Value.oneCell']⟩
    have HEx : Hid (n ≤ 1000000 ∧ B ≤ wr.heap.size) := ⟨by omega, Nat.le_trans hBS.out hS.2.2.1⟩
    refine wp_append_one _ _ 23 rfl B 36 3 toks_elem A n c _ rfl HOx g rfl 36 (tkC 1 U p) HLx HEx ?_
    intro A2 c2 w2 hO2 hg2
    refine hKx _ _ rfl (by unfold ApR; rw [if_pos rfl]; exact hg2.out) ⟨A2, c2, rfl, hO2.out⟩
  · go_simp
    refine hKx _ _ rfl (ApR.of (Below.refl _ _) (by decide)) (by first | rfl | simp)
 case hfinq1 =>
  intro vals wr l hl hS hP
  obtain ⟨A2, c2, ez_9, hO9⟩ := hP 9 (by decide)
  have ez_10 : vals 10 = _ := hP 10 (by decide)
  have c0 := hS.1.cell (k := 0) rfl
  have f0 := hS.1.free 0
  have HQ3n : Hid (RowA (wr.setCell ⟨q3, 0, none⟩ (.slice A2 (n + 1) c2)) q3 30 (gotX A2 (n + 1) c2 0 0)) := hS.1.set 0 (.slice A2 (n + 1) c2)
  have HQ2n : Hid (RowA (wr.setCell ⟨q3, 0, none⟩ (.slice A2 (n + 1) c2)) q2 30 (gotX none 0 0 0 0)) := hS.2.1.far hq23.out 0 _
  have hcn : n + 1 ≤ c2 := by obtain ⟨g, _, _, _, hc, _⟩ := hO9.cells (by omega); exact hc
  have HOn : Hid (OwnR (wr.setCell ⟨q3, 0, none⟩ (.slice A2 (n + 1) c2)) B 36 3 A2 (n + 1) c2 (tkCells (us ++ [(1, t, p)]))) := by
   have h9 := ownR_set (o := 0) (v := .slice A2 (n + 1) c2) hO9 hq3B.out
   show OwnR _ _ _ _ _ _ _ _
   rw [tkCells_snoc]; unfold tkV; rw [hUt.out]; exact h9
  have HBn := Lib.hid (hS.2.2.2.1.setCell (p := ⟨q3, 0, none⟩) hq3b.out (.slice A2 (n + 1) c2))
  have Hszn : Hid (B ≤ (wr.setCell ⟨q3, 0, none⟩ (.slice A2 (n + 1) c2)).heap.size) := by show _ ≤ _; have h7 := Nat.le_trans hBS.out hS.2.2.1; simpa [World.setCell] using h7
  clear hS hP hO9 hl
  try dsimp only
  rw [ez_9, ez_10]
  clear ez_9 ez_10
  refine wpAny_ready (rs := [11]) (by kernel_rfl) (by simp) (AllReady.cons rfl (fun KC hK2 => ?_) AllReady.nil)
  go_simp
  refine hK2 _ _ ?_
  clear hK2 KC c0 f0
  refine wpAny_done (by kernel_rfl) ?_ _
  exact hK A2 c2 _ _ _ _ _ _ _ _ _ _ _ _ HQ3n HQ2n HOn hcn Hszn HBn
set_option maxHeartbeats 4000000 in
set_option maxRecDepth 100000 in
theorem rxReg25 {Q : Exit → Act → World → Prop} {w wr : World} {s U : ByteArray} {q2 q3 B S0 p n c : Nat} {A : Option Addr} {us : List Tk} {t : List Nat} {TO : Int}
 {x1 x5 x7 x8 x9 x10 x11 x12 x13 x14 x15 x16 x17 x18 x19 x20 x21 x22 x23 x24 x25 x26 x27 x28 x29 x30 x31 x32 x33 x34 x35 x36 x37 x38 x39 x40 x41 x42 x43 x44 x45 x46 x47 x48 x49 x50 x51 x52 x53 x54 x55 x56 x57 x58 x59 x60 x61 x62 x63 x64 x65 x66 x67 x68 x69 x70 x71 x72 x73 x74 x75 x76 x77 x78 x79 x80 x81 x82 x83 x84 x85 x86 x87 x88 x89 x90 x91 x92 x93 x94 x95 x96 x97 x98 x99 x100 x101 x102 x103 x104 x105 x106 x107 x108 x109 x110 x111 x112 x113 x114 x115 x116 x117 x118 x119 x120 x121 x122 x123 x124 x125 x126 x127 x128 x129 x130 x131 x132 x133 x134 x135 x136 x137 x138 x139 x140 x141 x142 x143 x144 x145 x146 x147 x148 x149 x150 x151 x152 x153 x154 x155 x156 x157 x158 x159 x160 x161 x162 x163 x164 x165 x166 x167 x168 x169 x170 x171 x172 x173 x174 x175 x176 x177 x178 x179 x180 x181 x182 x183 x184 x185 x186 x187 x188 x189 x190 x191 x192 x193 x194 x195 x196 x197 x198 x199 x200 x201 x202 x203 x204 x205 x206 x207 x208 x209 x210 x211 x212 x213 x214 x215 x216 x217 x218 x219 x220 x221 x222 x223 x224 x225 x226 x227 x228 x229 x230 x231 x232 x233 x234 x235 x236 x237 x238 x239 x240 x241 x242 x243 : Value}
 (HQ3 : Hid (RowA wr q3 30 (gotX A n c 0 0))) (HQ2 : Hid (RowA wr q2 30 (gotX none 0 0 0 0))) (HO : Hid (OwnR wr B 36 3 A n c (tkCells us))) (HB : Hid (Below w.heap.size w wr))
 (hB0 : Hid (w.heap.size ≤ B)) (hq2B : Hid (q2 < B)) (hq3B : Hid (q3 < B)) (hq23 : Hid (q3 ≠ q2)) (hq3b : Hid (w.heap.size ≤ q3)) (hS0 : Hid (S0 = wr.heap.size)) (hBS : Hid (B ≤ S0)) (hOw : Hid (∀ g, Value.ownBlock (.slice A n c) = some g → B ≤ g ∧ g < S0)) (hn4 : n ≤ 4000) (hp4 : p ≤ 4000)
 (Hsl : Hid (∀ W, (Instr.slice 9 (.string s) (some (.int .i64 (p : Int))) (some (.int .i64 TO)) none).run Tryd.prog W = .ok (.string U) W)) (hUt : Hid (strOf t = U))
 (hQ : ∀ c (t t' : Array Value) (d : List Deferred) w, Q (.panic c) ⟨t, d⟩ w → Q (.panic c) ⟨t', d⟩ w)
 (hK : ∀ (A2 : Option Addr) (c2 : Nat) (wN : World) (y121 y122 y123 y124 y125 y126 y127 y128 y129 y130 y131 : Value), Hid (RowA wN q3 30 (gotX A2 (n + 1) c2 0 0)) → Hid (RowA wN q2 30 (gotX none 0 0 0 0)) → Hid (OwnR wN B 36 3 A2 (n + 1) c2 (tkCells (us ++ [(2, t, p)]))) → n + 1 ≤ c2 → Hid (B ≤ wN.heap.size) → Hid (Below w.heap.size w wN) → Q .normal ⟨#[.string s, x1, .pointer (some ⟨q2, 0, none⟩), .pointer (some ⟨q3, 0, none⟩), .int .i64 (p : Int), x5, .int .i64 TO, x7, x8, x9, x10, x11, x12, x13, x14, x15, x16, x17, x18, x19, x20, x21, x22, x23, x24, x25, x26, x27, x28, x29, x30, x31, x32, x33, x34, x35, x36, x37, x38, x39, x40, x41, x42, x43, x44, x45, x46, x47, x48, x49, x50, x51, x52, x53, x54, x55, x56, x57, x58, x59, x60, x61, x62, x63, x64, x65, x66, x67, x68, x69, x70, x71, x72, x73, x74, x75, x76, x77, x78, x79, x80, x81, x82, x83, x84, x85, x86, x87, x88, x89, x90, x91, x92, x93, x94, x95, x96, x97, x98, x99, x100, x101, x102, x103, x104, x105, x106, x107, x108, x109, x110, x111, x112, x113, x114, x115, x116, x117, x118, x119, x120, y121, y122, y123, y124, y125, y126, y127, y128, y129, y130, y131, x132, x133, x134, x135, x136, x137, x138, x139, x140, x141, x142, x143, x144, x145, x146, x147, x148, x149, x150, x151, x152, x153, x154, x155, x156, x157, x158, x159, x160, x161, x162, x163, x164, x165, x166, x167, x168, x169, x170, x171, x172, x173, x174, x175, x176, x177, x178, x179, x180, x181, x182, x183, x184, x185, x186, x187, x188, x189, x190, x191, x192, x193, x194, x195, x196, x197, x198, x199, x200, x201, x202, x203, x204, x205, x206, x207, x208, x209, x210, x211, x212, x213, x214, x215, x216, x217, x218, x219, x220, x221, x222, x223, x224, x225, x226, x227, x228, x229, x230, x231, x232, x233, x234, x235, x236, x237, x238, x239, x240, x241, x242, x243], []⟩ wN) :
 (Code.region 25 (((Tryd.f9.body.bind fun b => regionIn b 25)).getD []).toArray true).wp Tryd.prog Q ⟨#[.string s, x1, .pointer (some ⟨q2, 0, none⟩), .pointer (some ⟨q3, 0, none⟩), .int .i64 (p : Int), x5, .int .i64 TO, x7, x8, x9, x10, x11, x12, x13, x14, x15, x16, x17, x18, x19, x20, x21, x22, x23, x24, x25, x26, x27, x28, x29, x30, x31, x32, x33, x34, x35, x36, x37, x38, x39, x40, x41, x42, x43, x44, x45, x46, x47, x48, x49, x50, x51, x52, x53, x54, x55, x56, x57, x58, x59, x60, x61, x62, x63, x64, x65, x66, x67, x68, x69, x70, x71, x72, x73, x74, x75, x76, x77, x78, x79, x80, x81, x82, x83, x84, x85, x86, x87, x88, x89, x90, x91, x92, x93, x94, x95, x96, x97, x98, x99, x100, x101, x102, x103, x104, x105, x106, x107, x108, x109, x110, x111, x112, x113, x114, x115, x116, x117, x118, x119, x120, x121, x122, x123, x124, x125, x126, x127, x128, x129, x130, x131, x132, x133, x134, x135, x136, x137, x138, x139, x140, x141, x142, x143, x144, x145, x146, x147, x148, x149, x150, x151, x152, x153, x154, x155, x156, x157, x158, x159, x160, x161, x162, x163, x164, x165, x166, x167, x168, x169, x170, x171, x172, x173, x174, x175, x176, x177, x178, x179, x180, x181, x182, x183, x184, x185, x186, x187, x188, x189, x190, x191, x192, x193, x194, x195, x196, x197, x198, x199, x200, x201, x202, x203, x204, x205, x206, x207, x208, x209, x210, x211, x212, x213, x214, x215, x216, x217, x218, x219, x220, x221, x222, x223, x224, x225, x226, x227, x228, x229, x230, x231, x232, x233, x234, x235, x236, x237, x238, x239, x240, x241, x242, x243], []⟩ wr := by
 show (Code.region 25 (List.toArray [_, _, _, _, _, _, _, _, _, _, _, _]) true).wp _ _ _ _
 refine region_freeS 11 1 [some 121, some 122, some 123, some 124, some 125, some 126, some 127, some 128, some 129, some 130, some 131] ?aFq2 (ApR 9 A n c) (ApS w q2 q3 B S0 A n c us 9) (fun k vv wx => match k with
  | 0 => vv = .pointer (some ⟨q3, 0, none⟩)
  | 1 => vv = .slice A n c
  | 2 => vv = .string s
  | 3 => vv = .int .i64 (p : Int)
  | 4 => vv = .int .i64 TO
  | 5 => vv = .string U
  | 6 => vv = .int .i64 (p : Int)
  | 7 => vv = .agg (tkC 2 U p)
  | 8 => ∃ g, vv = .slice (some ⟨g, 0, none⟩) 1 1 ∧ RowA wx g 36 (tkC 2 U p) ∧ S0 ≤ g
  | 9 => ∃ A2 c2, vv = .slice A2 (n + 1) c2 ∧ OwnR wx B 36 3 A2 (n + 1) c2 (tkCells us ++ (tkC 2 U p).toList)
  | _ => vv = .pointer (some ⟨q3, 0, none⟩))
  (by kernel_rfl) ?haFq2 rfl (by kernel_rfl) (by kernel_rfl) hQ ?hSbq2 ?hPbq2 ?hSq2 ?hopq2 ?hfinq2
 case haFq2 =>
  intro vals
  simp only [fillAll, dAt, Act.put, List.setIfInBounds_toArray, List.set_cons_zero, List.set_cons_succ]
  exact rfl
 case hSbq2 => exact fun i l wx wy hi hl hR h => ApS.step hB0.out hq2B.out hq3B.out hBS.out hl hR h
 case hPbq2 =>
  intro k j v wa wb hk hkj hb h
  match j, h with
  | 0, h => exact h
  | 1, h => exact h
  | 2, h => exact h
  | 3, h => exact h
  | 4, h => exact h
  | 5, h => exact h
  | 6, h => exact h
  | 7, h => exact h
  | 8, ⟨g, e1, g1, g2⟩ => exact ⟨g, e1, hb.row g1 (fun e => by have := (hOw.out g e).2; omega), g2⟩
  | 9, ⟨A2, c2, e1, g1⟩ =>
   unfold ApR at hb
   rw [if_neg (by omega)] at hb
   exact ⟨A2, c2, e1, g1.below hb⟩
  | _ + 10, h => exact h
 case hSq2 => exact ⟨HQ3.out, HQ2.out, by rw [hS0.out]; exact Nat.le_refl _, HB.out.drew, fun _ => HO.out⟩
 case hopq2 =>
  refine .cons (k := 0) ?_ (.cons (k := 1) ?_ (.cons (k := 2) ?_ (.cons (k := 3) ?_ (.cons (k := 4) ?_ (.cons (k := 5) ?_ (.cons (k := 6) ?_ (.cons (k := 7) ?_ (.cons (k := 8) ?_ (.cons (k := 9) ?_ (.cons (k := 10) ?_ (.nil)))))))))))
  all_goals intro vals wr l hl hS hd KC hKx
  all_goals (show Oper.wp _ _ _ _ _ _; dsimp only)
  · go_simp
    refine hKx _ _ rfl (ApR.of (Below.refl _ _) (by decide)) (by first | rfl | simp)
  · have d0 : vals 0 = _ := hd 0 (by decide +kernel)
    rw [d0]
    have c0 := hS.1.cell (k := 0) rfl
    go_simp
    refine hKx _ _ rfl (ApR.of (Below.refl _ _) (by decide)) (by first | rfl | simp)
  · go_simp
    refine hKx _ _ rfl (ApR.of (Below.refl _ _) (by decide)) (by first | rfl | simp)
  · go_simp
    refine hKx _ _ rfl (ApR.of (Below.refl _ _) (by decide)) (by first | rfl | simp)
  · go_simp
    refine hKx _ _ rfl (ApR.of (Below.refl _ _) (by decide)) (by first | rfl | simp)
  · have d2 : vals 2 = _ := hd 2 (by decide +kernel)
    have d3 : vals 3 = _ := hd 3 (by decide +kernel)
    have d4 : vals 4 = _ := hd 4 (by decide +kernel)
    rw [d2, d3, d4]
    have hsl : ∀ W, (Instr.slice 9 (.string s) (some (.int .i64 (p : Int))) (some (.int .i64 TO)) none).run Tryd.prog W = .ok (.string U) W := fun W => by
     have h := Hsl.out W
     exact h
    go_simp
    refine hKx _ _ rfl (ApR.of (Below.refl _ _) (by decide)) (by first | rfl | simp)
  · go_simp
    refine hKx _ _ rfl (ApR.of (Below.refl _ _) (by decide)) (by first | rfl | simp)
  · have d5 : vals 5 = _ := hd 5 (by decide +kernel)
    have d6 : vals 6 = _ := hd 6 (by decide +kernel)
    rw [d5, d6]
    go_simp
    refine hKx _ _ rfl (ApR.of (Below.refl _ _) (by decide)) (by first | rfl | simp)
  · have d7 : vals 7 = _ := hd 7 (by decide +kernel)
    rw [d7]
    go_simp
    refine hKx _ _ rfl (ApR.of (below_new _ _) (by decide)) ⟨_, rfl, rowA_new wr _ _, hS.2.2.1⟩
  · have d1 : vals 1 = _ := hd 1 (by decide +kernel)
    obtain ⟨g, d8, g1, g2⟩ := hd 8 (by decide +kernel)
    rw [d1, d8]
    have HOx := Lib.hid (hS.2.2.2.2 hl)
    have HLx : Hid (RowA wr g 36 (tkC 2 U p) ∧ (tkC 2 U p).size = 3 ∧ ∀ v ∈ tkC 2 U p, v.oneCell' = true) := ⟨g1, rfl, by simp [Value.oneCell']⟩
    have HEx : Hid (n ≤ 1000000 ∧ B ≤ wr.heap.size) := ⟨by omega, Nat.le_trans hBS.out hS.2.2.1⟩
    refine wp_append_one _ _ 23 rfl B 36 3 toks_elem A n c _ rfl HOx g rfl 36 (tkC 2 U p) HLx HEx ?_
    intro A2 c2 w2 hO2 hg2
    refine hKx _ _ rfl (by unfold ApR; rw [if_pos rfl]; exact hg2.out) ⟨A2, c2, rfl, hO2.out⟩
  · go_simp
    refine hKx _ _ rfl (ApR.of (Below.refl _ _) (by decide)) (by first | rfl | simp)
 case hfinq2 =>
  intro vals wr l hl hS hP
  obtain ⟨A2, c2, ez_9, hO9⟩ := hP 9 (by decide)
  have ez_10 : vals 10 = _ := hP 10 (by decide)
  have c0 := hS.1.cell (k := 0) rfl
  have f0 := hS.1.free 0
  have HQ3n : Hid (RowA (wr.setCell ⟨q3, 0, none⟩ (.slice A2 (n + 1) c2)) q3 30 (gotX A2 (n + 1) c2 0 0)) := hS.1.set 0 (.slice A2 (n + 1) c2)
  have HQ2n : Hid (RowA (wr.setCell ⟨q3, 0, none⟩ (.slice A2 (n + 1) c2)) q2 30 (gotX none 0 0 0 0)) := hS.2.1.far hq23.out 0 _
  have hcn : n + 1 ≤ c2 := by obtain ⟨g, _, _, _, hc, _⟩ := hO9.cells (by omega); exact hc
  have HOn : Hid (OwnR (wr.setCell ⟨q3, 0, none⟩ (.slice A2 (n + 1) c2)) B 36 3 A2 (n + 1) c2 (tkCells (us ++ [(2, t, p)]))) := by
   have h9 := ownR_set (o := 0) (v := .slice A2 (n + 1) c2) hO9 hq3B.out
   show OwnR _ _ _ _ _ _ _ _
   rw [tkCells_snoc]; unfold tkV; rw [hUt.out]; exact h9
  have HBn := Lib.hid (hS.2.2.2.1.setCell (p := ⟨q3, 0, none⟩) hq3b.out (.slice A2 (n + 1) c2))
  have Hszn : Hid (B ≤ (wr.setCell ⟨q3, 0, none⟩ (.slice A2 (n + 1) c2)).heap.size) := by show _ ≤ _; have h7 := Nat.le_trans hBS.out hS.2.2.1; simpa [World.setCell] using h7
  clear hS hP hO9 hl
  try dsimp only
  rw [ez_9, ez_10]
  clear ez_9 ez_10
  refine wpAny_ready (rs := [11]) (by kernel_rfl) (by simp) (AllReady.cons rfl (fun KC hK2 => ?_) AllReady.nil)
  go_simp
  refine hK2 _ _ ?_
  clear hK2 KC c0 f0
  refine wpAny_done (by kernel_rfl) ?_ _
  exact hK A2 c2 _ _ _ _ _ _ _ _ _ _ _ _ HQ3n HQ2n HOn hcn Hszn HBn
set_option maxHeartbeats 4000000 in
set_option maxRecDepth 100000 in
theorem rxReg31 {Q : Exit → Act → World → Prop} {w wr : World} {s U : ByteArray} {q2 q3 B S0 p n c : Nat} {A : Option Addr} {us : List Tk} {t : List Nat} {TO : Int}
 {x1 x5 x7 x8 x9 x10 x11 x12 x13 x14 x15 x16 x17 x18 x19 x20 x21 x22 x23 x24 x25 x26 x27 x28 x29 x30 x31 x32 x33 x34 x35 x36 x37 x38 x39 x40 x41 x42 x43 x44 x45 x46 x47 x48 x49 x50 x51 x52 x53 x54 x55 x56 x57 x58 x59 x60 x61 x62 x63 x64 x65 x66 x67 x68 x69 x70 x71 x72 x73 x74 x75 x76 x77 x78 x79 x80 x81 x82 x83 x84 x85 x86 x87 x88 x89 x90 x91 x92 x93 x94 x95 x96 x97 x98 x99 x100 x101 x102 x103 x104 x105 x106 x107 x108 x109 x110 x111 x112 x113 x114 x115 x116 x117 x118 x119 x120 x121 x122 x123 x124 x125 x126 x127 x128 x129 x130 x131 x132 x133 x134 x135 x136 x137 x138 x139 x140 x141 x142 x143 x144 x145 x146 x147 x148 x149 x150 x151 x152 x153 x154 x155 x156 x157 x158 x159 x160 x161 x162 x163 x164 x165 x166 x167 x168 x169 x170 x171 x172 x173 x174 x175 x176 x177 x178 x179 x180 x181 x182 x183 x184 x185 x186 x187 x188 x189 x190 x191 x192 x193 x194 x195 x196 x197 x198 x199 x200 x201 x202 x203 x204 x205 x206 x207 x208 x209 x210 x211 x212 x213 x214 x215 x216 x217 x218 x219 x220 x221 x222 x223 x224 x225 x226 x227 x228 x229 x230 x231 x232 x233 x234 x235 x236 x237 x238 x239 x240 x241 x242 x243 : Value}
 (HQ3 : Hid (RowA wr q3 30 (gotX A n c 0 0))) (HQ2 : Hid (RowA wr q2 30 (gotX none 0 0 0 0))) (HO : Hid (OwnR wr B 36 3 A n c (tkCells us))) (HB : Hid (Below w.heap.size w wr))
 (hB0 : Hid (w.heap.size ≤ B)) (hq2B : Hid (q2 < B)) (hq3B : Hid (q3 < B)) (hq23 : Hid (q3 ≠ q2)) (hq3b : Hid (w.heap.size ≤ q3)) (hS0 : Hid (S0 = wr.heap.size)) (hBS : Hid (B ≤ S0)) (hOw : Hid (∀ g, Value.ownBlock (.slice A n c) = some g → B ≤ g ∧ g < S0)) (hn4 : n ≤ 4000) (hp4 : p ≤ 4000)
 (Hsl : Hid (∀ W, (Instr.slice 9 (.string s) (some (.int .i64 ((p : Int) + 1))) (some (.int .i64 TO)) none).run Tryd.prog W = .ok (.string U) W)) (hUt : Hid (strOf t = U))
 (hQ : ∀ c (t t' : Array Value) (d : List Deferred) w, Q (.panic c) ⟨t, d⟩ w → Q (.panic c) ⟨t', d⟩ w)
 (hK : ∀ (A2 : Option Addr) (c2 : Nat) (wN : World) (y178 y179 y180 y181 y182 y183 y184 y185 y186 y187 y188 y189 : Value), Hid (RowA wN q3 30 (gotX A2 (n + 1) c2 0 0)) → Hid (RowA wN q2 30 (gotX none 0 0 0 0)) → Hid (OwnR wN B 36 3 A2 (n + 1) c2 (tkCells (us ++ [(4, t, p)]))) → n + 1 ≤ c2 → Hid (B ≤ wN.heap.size) → Hid (Below w.heap.size w wN) → Q .normal ⟨#[.string s, x1, .pointer (some ⟨q2, 0, none⟩), .pointer (some ⟨q3, 0, none⟩), .int .i64 (p : Int), x5, .int .i64 TO, x7, x8, x9, x10, x11, x12, x13, x14, x15, x16, x17, x18, x19, x20, x21, x22, x23, x24, x25, x26, x27, x28, x29, x30, x31, x32, x33, x34, x35, x36, x37, x38, x39, x40, x41, x42, x43, x44, x45, x46, x47, x48, x49, x50, x51, x52, x53, x54, x55, x56, x57, x58, x59, x60, x61, x62, x63, x64, x65, x66, x67, x68, x69, x70, x71, x72, x73, x74, x75, x76, x77, x78, x79, x80, x81, x82, x83, x84, x85, x86, x87, x88, x89, x90, x91, x92, x93, x94, x95, x96, x97, x98, x99, x100, x101, x102, x103, x104, x105, x106, x107, x108, x109, x110, x111, x112, x113, x114, x115, x116, x117, x118, x119, x120, x121, x122, x123, x124, x125, x126, x127, x128, x129, x130, x131, x132, x133, x134, x135, x136, x137, x138, x139, x140, x141, x142, x143, x144, x145, x146, x147, x148, x149, x150, x151, x152, x153, x154, x155, x156, x157, x158, x159, x160, x161, x162, x163, x164, x165, x166, x167, x168, x169, x170, x171, x172, x173, x174, x175, x176, x177, y178, y179, y180, y181, y182, y183, y184, y185, y186, y187, y188, y189, x190, x191, x192, x193, x194, x195, x196, x197, x198, x199, x200, x201, x202, x203, x204, x205, x206, x207, x208, x209, x210, x211, x212, x213, x214, x215, x216, x217, x218, x219, x220, x221, x222, x223, x224, x225, x226, x227, x228, x229, x230, x231, x232, x233, x234, x235, x236, x237, x238, x239, x240, x241, x242, x243], []⟩ wN) :
 (Code.region 31 (((Tryd.f9.body.bind fun b => regionIn b 31)).getD []).toArray true).wp Tryd.prog Q ⟨#[.string s, x1, .pointer (some ⟨q2, 0, none⟩), .pointer (some ⟨q3, 0, none⟩), .int .i64 (p : Int), x5, .int .i64 TO, x7, x8, x9, x10, x11, x12, x13, x14, x15, x16, x17, x18, x19, x20, x21, x22, x23, x24, x25, x26, x27, x28, x29, x30, x31, x32, x33, x34, x35, x36, x37, x38, x39, x40, x41, x42, x43, x44, x45, x46, x47, x48, x49, x50, x51, x52, x53, x54, x55, x56, x57, x58, x59, x60, x61, x62, x63, x64, x65, x66, x67, x68, x69, x70, x71, x72, x73, x74, x75, x76, x77, x78, x79, x80, x81, x82, x83, x84, x85, x86, x87, x88, x89, x90, x91, x92, x93, x94, x95, x96, x97, x98, x99, x100, x101, x102, x103, x104, x105, x106, x107, x108, x109, x110, x111, x112, x113, x114, x115, x116, x117, x118, x119, x120, x121, x122, x123, x124, x125, x126, x127, x128, x129, x130, x131, x132, x133, x134, x135, x136, x137, x138, x139, x140, x141, x142, x143, x144, x145, x146, x147, x148, x149, x150, x151, x152, x153, x154, x155, x156, x157, x158, x159, x160, x161, x162, x163, x164, x165, x166, x167, x168, x169, x170, x171, x172, x173, x174, x175, x176, x177, x178, x179, x180, x181, x182, x183, x184, x185, x186, x187, x188, x189, x190, x191, x192, x193, x194, x195, x196, x197, x198, x199, x200, x201, x202, x203, x204, x205, x206, x207, x208, x209, x210, x211, x212, x213, x214, x215, x216, x217, x218, x219, x220, x221, x222, x223, x224, x225, x226, x227, x228, x229, x230, x231, x232, x233, x234, x235, x236, x237, x238, x239, x240, x241, x242, x243], []⟩ wr := by
 show (Code.region 31 (List.toArray [_, _, _, _, _, _, _, _, _, _, _, _, _]) true).wp _ _ _ _
 refine region_freeS 12 1 [some 178, some 179, some 180, some 181, some 182, some 183, some 184, some 185, some 186, some 187, some 188, some 189] ?aFq3 (ApR 10 A n c) (ApS w q2 q3 B S0 A n c us 10) (fun k vv wx => match k with
  | 0 => vv = .pointer (some ⟨q3, 0, none⟩)
  | 1 => vv = .slice A n c
  | 2 => vv = .string s
  | 3 => vv = .int .i64 (p : Int)
  | 4 => vv = .int .i64 ((p : Int) + 1)
  | 5 => vv = .int .i64 TO
  | 6 => vv = .string U
  | 7 => vv = .int .i64 (p : Int)
  | 8 => vv = .agg (tkC 4 U p)
  | 9 => ∃ g, vv = .slice (some ⟨g, 0, none⟩) 1 1 ∧ RowA wx g 36 (tkC 4 U p) ∧ S0 ≤ g
  | 10 => ∃ A2 c2, vv = .slice A2 (n + 1) c2 ∧ OwnR wx B 36 3 A2 (n + 1) c2 (tkCells us ++ (tkC 4 U p).toList)
  | _ => vv = .pointer (some ⟨q3, 0, none⟩))
  (by kernel_rfl) ?haFq3 rfl (by kernel_rfl) (by kernel_rfl) hQ ?hSbq3 ?hPbq3 ?hSq3 ?hopq3 ?hfinq3
 case haFq3 =>
  intro vals
  simp only [fillAll, dAt, Act.put, List.setIfInBounds_toArray, List.set_cons_zero, List.set_cons_succ]
  exact rfl
 case hSbq3 => exact fun i l wx wy hi hl hR h => ApS.step hB0.out hq2B.out hq3B.out hBS.out hl hR h
 case hPbq3 =>
  intro k j v wa wb hk hkj hb h
  match j, h with
  | 0, h => exact h
  | 1, h => exact h
  | 2, h => exact h
  | 3, h => exact h
  | 4, h => exact h
  | 5, h => exact h
  | 6, h => exact h
  | 7, h => exact h
  | 8, h => exact h
  | 9, ⟨g, e1, g1, g2⟩ => exact ⟨g, e1, hb.row g1 (fun e => by have := (hOw.out g e).2; omega), g2⟩
  | 10, ⟨A2, c2, e1, g1⟩ =>
   unfold ApR at hb
   rw [if_neg (by omega)] at hb
   exact ⟨A2, c2, e1, g1.below hb⟩
  | _ + 11, h => exact h
 case hSq3 => exact ⟨HQ3.out, HQ2.out, by rw [hS0.out]; exact Nat.le_refl _, HB.out.drew, fun _ => HO.out⟩
 case hopq3 =>
  refine .cons (k := 0) ?_ (.cons (k := 1) ?_ (.cons (k := 2) ?_ (.cons (k := 3) ?_ (.cons (k := 4) ?_ (.cons (k := 5) ?_ (.cons (k := 6) ?_ (.cons (k := 7) ?_ (.cons (k := 8) ?_ (.cons (k := 9) ?_ (.cons (k := 10) ?_ (.cons (k := 11) ?_ (.nil))))))))))))
  all_goals intro vals wr l hl hS hd KC hKx
  all_goals (show Oper.wp _ _ _ _ _ _; dsimp only)
  · go_simp
    refine hKx _ _ rfl (ApR.of (Below.refl _ _) (by decide)) (by first | rfl | simp)
  · have d0 : vals 0 = _ := hd 0 (by decide +kernel)
    rw [d0]
    have c0 := hS.1.cell (k := 0) rfl
    go_simp
    refine hKx _ _ rfl (ApR.of (Below.refl _ _) (by decide)) (by first | rfl | simp)
  · go_simp
    refine hKx _ _ rfl (ApR.of (Below.refl _ _) (by decide)) (by first | rfl | simp)
  · go_simp
    refine hKx _ _ rfl (ApR.of (Below.refl _ _) (by decide)) (by first | rfl | simp)
  · have d3 : vals 3 = _ := hd 3 (by decide +kernel)
    rw [d3]
    have hwr : IntKind.i64.wrap ((p : Int) + 1) = (p : Int) + 1 := by rw [IntKind.wrap_i64]; omega
    go_simp
    refine hKx _ _ rfl (ApR.of (Below.refl _ _) (by decide)) (by first | rfl | exact congrArg (Value.int IntKind.i64) hwr)
  · go_simp
    refine hKx _ _ rfl (ApR.of (Below.refl _ _) (by decide)) (by first | rfl | simp)
  · have d2 : vals 2 = _ := hd 2 (by decide +kernel)
    have d4 : vals 4 = _ := hd 4 (by decide +kernel)
    have d5 : vals 5 = _ := hd 5 (by decide +kernel)
    rw [d2, d4, d5]
    have hsl : ∀ W, (Instr.slice 9 (.string s) (some (.int .i64 ((p : Int) + 1))) (some (.int .i64 TO)) none).run Tryd.prog W = .ok (.string U) W := fun W => by
     have h := Hsl.out W
     exact h
    go_simp
    refine hKx _ _ rfl (ApR.of (Below.refl _ _) (by decide)) (by first | rfl | simp)
  · go_simp
    refine hKx _ _ rfl (ApR.of (Below.refl _ _) (by decide)) (by first | rfl | simp)
  · have d6 : vals 6 = _ := hd 6 (by decide +kernel)
    have d7 : vals 7 = _ := hd 7 (by decide +kernel)
    rw [d6, d7]
    go_simp
    refine hKx _ _ rfl (ApR.of (Below.refl _ _) (by decide)) (by first | rfl | simp)
  · have d8 : vals 8 = _ := hd 8 (by decide +kernel)
    rw [d8]
    go_simp
    refine hKx _ _ rfl (ApR.of (below_new _ _) (by decide)) ⟨_, rfl, rowA_new wr _ _, hS.2.2.1⟩
  · have d1 : vals 1 = _ := hd 1 (by decide +kernel)
    obtain ⟨g, d8, g1, g2⟩ := hd 9 (by decide +kernel)
    rw [d1, d8]
    have HOx := Lib.hid (hS.2.2.2.2 hl)
    have HLx : Hid (RowA wr g 36 (tkC 4 U p) ∧ (tkC 4 U p).size = 3 ∧ ∀ v ∈ tkC 4 U p, v.oneCell' = true) := ⟨g1, rfl, by simp [Value.oneCell']⟩
    have HEx : Hid (n ≤ 1000000 ∧ B ≤ wr.heap.size) := ⟨by omega, Nat.le_trans hBS.out hS.2.2.1⟩
    refine wp_append_one _ _ 23 rfl B 36 3 toks_elem A n c _ rfl HOx g rfl 36 (tkC 4 U p) HLx HEx ?_
    intro A2 c2 w2 hO2 hg2
    refine hKx _ _ rfl (by unfold ApR; rw [if_pos rfl]; exact hg2.out) ⟨A2, c2, rfl, hO2.out⟩
  · go_simp
    refine hKx _ _ rfl (ApR.of (Below.refl _ _) (by decide)) (by first | rfl | simp)
 case hfinq3 =>
  intro vals wr l hl hS hP
  obtain ⟨A2, c2, ez_9, hO9⟩ := hP 10 (by decide)
  have ez_10 : vals 11 = _ := hP 11 (by decide)
  have c0 := hS.1.cell (k := 0) rfl
  have f0 := hS.1.free 0
  have HQ3n : Hid (RowA (wr.setCell ⟨q3, 0, none⟩ (.slice A2 (n + 1) c2)) q3 30 (gotX A2 (n + 1) c2 0 0)) := hS.1.set 0 (.slice A2 (n + 1) c2)
  have HQ2n : Hid (RowA (wr.setCell ⟨q3, 0, none⟩ (.slice A2 (n + 1) c2)) q2 30 (gotX none 0 0 0 0)) := hS.2.1.far hq23.out 0 _
  have hcn : n + 1 ≤ c2 := by obtain ⟨g, _, _, _, hc, _⟩ := hO9.cells (by omega); exact hc
  have HOn : Hid (OwnR (wr.setCell ⟨q3, 0, none⟩ (.slice A2 (n + 1) c2)) B 36 3 A2 (n + 1) c2 (tkCells (us ++ [(4, t, p)]))) := by
   have h9 := ownR_set (o := 0) (v := .slice A2 (n + 1) c2) hO9 hq3B.out
   show OwnR _ _ _ _ _ _ _ _
   rw [tkCells_snoc]; unfold tkV; rw [hUt.out]; exact h9
  have HBn := Lib.hid (hS.2.2.2.1.setCell (p := ⟨q3, 0, none⟩) hq3b.out (.slice A2 (n + 1) c2))
  have Hszn : Hid (B ≤ (wr.setCell ⟨q3, 0, none⟩ (.slice A2 (n + 1) c2)).heap.size) := by show _ ≤ _; have h7 := Nat.le_trans hBS.out hS.2.2.1; simpa [World.setCell] using h7
  clear hS hP hO9 hl
  try dsimp only
  rw [ez_9, ez_10]
  clear ez_9 ez_10
  refine wpAny_ready (rs := [12]) (by kernel_rfl) (by simp) (AllReady.cons rfl (fun KC hK2 => ?_) AllReady.nil)
  go_simp
  refine hK2 _ _ ?_
  clear hK2 KC c0 f0
  refine wpAny_done (by kernel_rfl) ?_ _
  exact hK A2 c2 _ _ _ _ _ _ _ _ _ _ _ _ _ HQ3n HQ2n HOn hcn Hszn HBn
set_option maxHeartbeats 4000000 in
set_option maxRecDepth 100000 in
theorem rxReg34 {Q : Exit → Act → World → Prop} {w wr : World} {s U : ByteArray} {q2 q3 B S0 p n c : Nat} {A : Option Addr} {us : List Tk} {t : List Nat} {TO : Int}
 {x1 x5 x7 x8 x9 x10 x11 x12 x13 x14 x15 x16 x17 x18 x19 x20 x21 x22 x23 x24 x25 x26 x27 x28 x29 x30 x31 x32 x33 x34 x35 x36 x37 x38 x39 x40 x41 x42 x43 x44 x45 x46 x47 x48 x49 x50 x51 x52 x53 x54 x55 x56 x57 x58 x59 x60 x61 x62 x63 x64 x65 x66 x67 x68 x69 x70 x71 x72 x73 x74 x75 x76 x77 x78 x79 x80 x81 x82 x83 x84 x85 x86 x87 x88 x89 x90 x91 x92 x93 x94 x95 x96 x97 x98 x99 x100 x101 x102 x103 x104 x105 x106 x107 x108 x109 x110 x111 x112 x113 x114 x115 x116 x117 x118 x119 x120 x121 x122 x123 x124 x125 x126 x127 x128 x129 x130 x131 x132 x133 x134 x135 x136 x137 x138 x139 x140 x141 x142 x143 x144 x145 x146 x147 x148 x149 x150 x151 x152 x153 x154 x155 x156 x157 x158 x159 x160 x161 x162 x163 x164 x165 x166 x167 x168 x169 x170 x171 x172 x173 x174 x175 x176 x177 x178 x179 x180 x181 x182 x183 x184 x185 x186 x187 x188 x189 x190 x191 x192 x193 x194 x195 x196 x197 x198 x199 x200 x201 x202 x203 x204 x205 x206 x207 x208 x209 x210 x211 x212 x213 x214 x215 x216 x217 x218 x219 x220 x221 x222 x223 x224 x225 x226 x227 x228 x229 x230 x231 x232 x233 x234 x235 x236 x237 x238 x239 x240 x241 x242 x243 : Value}
 (HQ3 : Hid (RowA wr q3 30 (gotX A n c 0 0))) (HQ2 : Hid (RowA wr q2 30 (gotX none 0 0 0 0))) (HO : Hid (OwnR wr B 36 3 A n c (tkCells us))) (HB : Hid (Below w.heap.size w wr))
 (hB0 : Hid (w.heap.size ≤ B)) (hq2B : Hid (q2 < B)) (hq3B : Hid (q3 < B)) (hq23 : Hid (q3 ≠ q2)) (hq3b : Hid (w.heap.size ≤ q3)) (hS0 : Hid (S0 = wr.heap.size)) (hBS : Hid (B ≤ S0)) (hOw : Hid (∀ g, Value.ownBlock (.slice A n c) = some g → B ≤ g ∧ g < S0)) (hn4 : n ≤ 4000) (hp4 : p ≤ 4000)
 (Hsl : Hid (∀ W, (Instr.slice 9 (.string s) (some (.int .i64 (p : Int))) (some (.int .i64 TO)) none).run Tryd.prog W = .ok (.string U) W)) (hUt : Hid (strOf t = U))
 (hQ : ∀ c (t t' : Array Value) (d : List Deferred) w, Q (.panic c) ⟨t, d⟩ w → Q (.panic c) ⟨t', d⟩ w)
 (hK : ∀ (A2 : Option Addr) (c2 : Nat) (wN : World) (y231 y232 y233 y234 y235 y236 y237 y238 y239 y240 y241 : Value), Hid (RowA wN q3 30 (gotX A2 (n + 1) c2 0 0)) → Hid (RowA wN q2 30 (gotX none 0 0 0 0)) → Hid (OwnR wN B 36 3 A2 (n + 1) c2 (tkCells (us ++ [(3, t, p)]))) → n + 1 ≤ c2 → Hid (B ≤ wN.heap.size) → Hid (Below w.heap.size w wN) → Q .normal ⟨#[.string s, x1, .pointer (some ⟨q2, 0, none⟩), .pointer (some ⟨q3, 0, none⟩), .int .i64 (p : Int), x5, .int .i64 TO, x7, x8, x9, x10, x11, x12, x13, x14, x15, x16, x17, x18, x19, x20, x21, x22, x23, x24, x25, x26, x27, x28, x29, x30, x31, x32, x33, x34, x35, x36, x37, x38, x39, x40, x41, x42, x43, x44, x45, x46, x47, x48, x49, x50, x51, x52, x53, x54, x55, x56, x57, x58, x59, x60, x61, x62, x63, x64, x65, x66, x67, x68, x69, x70, x71, x72, x73, x74, x75, x76, x77, x78, x79, x80, x81, x82, x83, x84, x85, x86, x87, x88, x89, x90, x91, x92, x93, x94, x95, x96, x97, x98, x99, x100, x101, x102, x103, x104, x105, x106, x107, x108, x109, x110, x111, x112, x113, x114, x115, x116, x117, x118, x119, x120, x121, x122, x123, x124, x125, x126, x127, x128, x129, x130, x131, x132, x133, x134, x135, x136, x137, x138, x139, x140, x141, x142, x143, x144, x145, x146, x147, x148, x149, x150, x151, x152, x153, x154, x155, x156, x157, x158, x159, x160, x161, x162, x163, x164, x165, x166, x167, x168, x169, x170, x171, x172, x173, x174, x175, x176, x177, x178, x179, x180, x181, x182, x183, x184, x185, x186, x187, x188, x189, x190, x191, x192, x193, x194, x195, x196, x197, x198, x199, x200, x201, x202, x203, x204, x205, x206, x207, x208, x209, x210, x211, x212, x213, x214, x215, x216, x217, x218, x219, x220, x221, x222, x223, x224, x225, x226, x227, x228, x229, x230, y231, y232, y233, y234, y235, y236, y237, y238, y239, y240, y241, x242, x243], []⟩ wN) :
 (Code.region 34 (((Tryd.f9.body.bind fun b => regionIn b 34)).getD []).toArray true).wp Tryd.prog Q ⟨#[.string s, x1, .pointer (some ⟨q2, 0, none⟩), .pointer (some ⟨q3, 0, none⟩), .int .i64 (p : Int), x5, .int .i64 TO, x7, x8, x9, x10, x11, x12, x13, x14, x15, x16, x17, x18, x19, x20, x21, x22, x23, x24, x25, x26, x27, x28, x29, x30, x31, x32, x33, x34, x35, x36, x37, x38, x39, x40, x41, x42, x43, x44, x45, x46, x47, x48, x49, x50, x51, x52, x53, x54, x55, x56, x57, x58, x59, x60, x61, x62, x63, x64, x65, x66, x67, x68, x69, x70, x71, x72, x73, x74, x75, x76, x77, x78, x79, x80, x81, x82, x83, x84, x85, x86, x87, x88, x89, x90, x91, x92, x93, x94, x95, x96, x97, x98, x99, x100, x101, x102, x103, x104, x105, x106, x107, x108, x109, x110, x111, x112, x113, x114, x115, x116, x117, x118, x119, x120, x121, x122, x123, x124, x125, x126, x127, x128, x129, x130, x131, x132, x133, x134, x135, x136, x137, x138, x139, x140, x141, x142, x143, x144, x145, x146, x147, x148, x149, x150, x151, x152, x153, x154, x155, x156, x157, x158, x159, x160, x161, x162, x163, x164, x165, x166, x167, x168, x169, x170, x171, x172, x173, x174, x175, x176, x177, x178, x179, x180, x181, x182, x183, x184, x185, x186, x187, x188, x189, x190, x191, x192, x193, x194, x195, x196, x197, x198, x199, x200, x201, x202, x203, x204, x205, x206, x207, x208, x209, x210, x211, x212, x213, x214, x215, x216, x217, x218, x219, x220, x221, x222, x223, x224, x225, x226, x227, x228, x229, x230, x231, x232, x233, x234, x235, x236, x237, x238, x239, x240, x241, x242, x243], []⟩ wr := by
 show (Code.region 34 (List.toArray [_, _, _, _, _, _, _, _, _, _, _, _]) true).wp _ _ _ _
 refine region_freeS 11 1 [some 231, some 232, some 233, some 234, some 235, some 236, some 237, some 238, some 239, some 240, some 241] ?aFq4 (ApR 9 A n c) (ApS w q2 q3 B S0 A n c us 9) (fun k vv wx => match k with
  | 0 => vv = .pointer (some ⟨q3, 0, none⟩)
  | 1 => vv = .slice A n c
  | 2 => vv = .string s
  | 3 => vv = .int .i64 (p : Int)
  | 4 => vv = .int .i64 TO
  | 5 => vv = .string U
  | 6 => vv = .int .i64 (p : Int)
  | 7 => vv = .agg (tkC 3 U p)
  | 8 => ∃ g, vv = .slice (some ⟨g, 0, none⟩) 1 1 ∧ RowA wx g 36 (tkC 3 U p) ∧ S0 ≤ g
  | 9 => ∃ A2 c2, vv = .slice A2 (n + 1) c2 ∧ OwnR wx B 36 3 A2 (n + 1) c2 (tkCells us ++ (tkC 3 U p).toList)
  | _ => vv = .pointer (some ⟨q3, 0, none⟩))
  (by kernel_rfl) ?haFq4 rfl (by kernel_rfl) (by kernel_rfl) hQ ?hSbq4 ?hPbq4 ?hSq4 ?hopq4 ?hfinq4
 case haFq4 =>
  intro vals
  simp only [fillAll, dAt, Act.put, List.setIfInBounds_toArray, List.set_cons_zero, List.set_cons_succ]
  exact rfl
 case hSbq4 => exact fun i l wx wy hi hl hR h => ApS.step hB0.out hq2B.out hq3B.out hBS.out hl hR h
 case hPbq4 =>
  intro k j v wa wb hk hkj hb h
  match j, h with
  | 0, h => exact h
  | 1, h => exact h
  | 2, h => exact h
  | 3, h => exact h
  | 4, h => exact h
  | 5, h => exact h
  | 6, h => exact h
  | 7, h => exact h
  | 8, ⟨g, e1, g1, g2⟩ => exact ⟨g, e1, hb.row g1 (fun e => by have := (hOw.out g e).2; omega), g2⟩
  | 9, ⟨A2, c2, e1, g1⟩ =>
   unfold ApR at hb
   rw [if_neg (by omega)] at hb
   exact ⟨A2, c2, e1, g1.below hb⟩
  | _ + 10, h => exact h
 case hSq4 => exact ⟨HQ3.out, HQ2.out, by rw [hS0.out]; exact Nat.le_refl _, HB.out.drew, fun _ => HO.out⟩
 case hopq4 =>
  refine .cons (k := 0) ?_ (.cons (k := 1) ?_ (.cons (k := 2) ?_ (.cons (k := 3) ?_ (.cons (k := 4) ?_ (.cons (k := 5) ?_ (.cons (k := 6) ?_ (.cons (k := 7) ?_ (.cons (k := 8) ?_ (.cons (k := 9) ?_ (.cons (k := 10) ?_ (.nil)))))))))))
  all_goals intro vals wr l hl hS hd KC hKx
  all_goals (show Oper.wp _ _ _ _ _ _; dsimp only)
  · go_simp
    refine hKx _ _ rfl (ApR.of (Below.refl _ _) (by decide)) (by first | rfl | simp)
  · have d0 : vals 0 = _ := hd 0 (by decide +kernel)
    rw [d0]
    have c0 := hS.1.cell (k := 0) rfl
    go_simp
    refine hKx _ _ rfl (ApR.of (Below.refl _ _) (by decide)) (by first | rfl | simp)
  · go_simp
    refine hKx _ _ rfl (ApR.of (Below.refl _ _) (by decide)) (by first | rfl | simp)
  · go_simp
    refine hKx _ _ rfl (ApR.of (Below.refl _ _) (by decide)) (by first | rfl | simp)
  · go_simp
    refine hKx _ _ rfl (ApR.of (Below.refl _ _) (by decide)) (by first | rfl | simp)
  · have d2 : vals 2 = _ := hd 2 (by decide +kernel)
    have d3 : vals 3 = _ := hd 3 (by decide +kernel)
    have d4 : vals 4 = _ := hd 4 (by decide +kernel)
    rw [d2, d3, d4]
    have hsl : ∀ W, (Instr.slice 9 (.string s) (some (.int .i64 (p : Int))) (some (.int .i64 TO)) none).run Tryd.prog W = .ok (.string U) W := fun W => by
     have h := Hsl.out W
     exact h
    go_simp
    refine hKx _ _ rfl (ApR.of (Below.refl _ _) (by decide)) (by first | rfl | simp)
  · go_simp
    refine hKx _ _ rfl (ApR.of (Below.refl _ _) (by decide)) (by first | rfl | simp)
  · have d5 : vals 5 = _ := hd 5 (by decide +kernel)
    have d6 : vals 6 = _ := hd 6 (by decide +kernel)
    rw [d5, d6]
    go_simp
    refine hKx _ _ rfl (ApR.of (Below.refl _ _) (by decide)) (by first | rfl | simp)
  · have d7 : vals 7 = _ := hd 7 (by decide +kernel)
    rw [d7]
    go_simp
    refine hKx _ _ rfl (ApR.of (below_new _ _) (by decide)) ⟨_, rfl, rowA_new wr _ _, hS.2.2.1⟩
  · have d1 : vals 1 = _ := hd 1 (by decide +kernel)
    obtain ⟨g, d8, g1, g2⟩ := hd 8 (by decide +kernel)
    rw [d1, d8]
    have HOx := Lib.hid (hS.2.2.2.2 hl)
    have HLx : Hid (RowA wr g 36 (tkC 3 U p) ∧ (tkC 3 U p).size = 3 ∧ ∀ v ∈ tkC 3 U p, v.oneCell' = true) := ⟨g1, rfl, by simp [Value.oneCell']⟩
    have HEx : Hid (n ≤ 1000000 ∧ B ≤ wr.heap.size) := ⟨by omega, Nat.le_trans hBS.out hS.2.2.1⟩
    refine wp_append_one _ _ 23 rfl B 36 3 toks_elem A n c _ rfl HOx g rfl 36 (tkC 3 U p) HLx HEx ?_
    intro A2 c2 w2 hO2 hg2
    refine hKx _ _ rfl (by unfold ApR; rw [if_pos rfl]; exact hg2.out) ⟨A2, c2, rfl, hO2.out⟩
  · go_simp
    refine hKx _ _ rfl (ApR.of (Below.refl _ _) (by decide)) (by first | rfl | simp)
 case hfinq4 =>
  intro vals wr l hl hS hP
  obtain ⟨A2, c2, ez_9, hO9⟩ := hP 9 (by decide)
  have ez_10 : vals 10 = _ := hP 10 (by decide)
  have c0 := hS.1.cell (k := 0) rfl
  have f0 := hS.1.free 0
  have HQ3n : Hid (RowA (wr.setCell ⟨q3, 0, none⟩ (.slice A2 (n + 1) c2)) q3 30 (gotX A2 (n + 1) c2 0 0)) := hS.1.set 0 (.slice A2 (n + 1) c2)
  have HQ2n : Hid (RowA (wr.setCell ⟨q3, 0, none⟩ (.slice A2 (n + 1) c2)) q2 30 (gotX none 0 0 0 0)) := hS.2.1.far hq23.out 0 _
  have hcn : n + 1 ≤ c2 := by obtain ⟨g, _, _, _, hc, _⟩ := hO9.cells (by omega); exact hc
  have HOn : Hid (OwnR (wr.setCell ⟨q3, 0, none⟩ (.slice A2 (n + 1) c2)) B 36 3 A2 (n + 1) c2 (tkCells (us ++ [(3, t, p)]))) := by
   have h9 := ownR_set (o := 0) (v := .slice A2 (n + 1) c2) hO9 hq3B.out
   show OwnR _ _ _ _ _ _ _ _
   rw [tkCells_snoc]; unfold tkV; rw [hUt.out]; exact h9
  have HBn := Lib.hid (hS.2.2.2.1.setCell (p := ⟨q3, 0, none⟩) hq3b.out (.slice A2 (n + 1) c2))
  have Hszn : Hid (B ≤ (wr.setCell ⟨q3, 0, none⟩ (.slice A2 (n + 1) c2)).heap.size) := by show _ ≤ _; have h7 := Nat.le_trans hBS.out hS.2.2.1; simpa [World.setCell] using h7
  clear hS hP hO9 hl
  try dsimp only
  rw [ez_9, ez_10]
  clear ez_9 ez_10
  refine wpAny_ready (rs := [11]) (by kernel_rfl) (by simp) (AllReady.cons rfl (fun KC hK2 => ?_) AllReady.nil)
  go_simp
  refine hK2 _ _ ?_
  clear hK2 KC c0 f0
  refine wpAny_done (by kernel_rfl) ?_ _
  exact hK A2 c2 _ _ _ _ _ _ _ _ _ _ _ _ HQ3n HQ2n HOn hcn Hszn HBn
end Go.Proofs.YthjnepfpohmpkaaDoor

/- What the reference of layer 13 answers (Tokens), as a contract over memory. Condition: a text of at most 10^9 bytes. -/
namespace Go.Proofs.YthjnepfpohmpkaaDoor
open Go.RowKit Limb
set_option linter.unusedVariables false
theorem slice_at {s U : ByteArray} {i j : Nat} {I J : Int} (h : s.extract i j = U) (hI : I = i) (hJ : J = j) (h1 : i ≤ j) (h2 : j ≤ s.size) (W : World) :
 (Instr.slice 9 (.string s) (some (.int .i64 I)) (some (.int .i64 J)) none).run Tryd.prog W = .ok (.string U) W := by
 subst hI hJ h
 go_simp
theorem while_in {p : Nat → Bool} {l r0 : List Nat} {q m j d : Nat} (hD : l.drop q = d :: r0) (hm : (r0.takeWhile p).length = m) (h1 : q + 1 ≤ j) (h2 : j < q + 1 + m) : p (lim l j) = true := by
 have e1 : l.drop (q + 1) = r0 := by rw [← List.drop_drop, hD]; rfl
 have e : lim l j = lim r0 (j - (q + 1)) := by rw [← e1, lim_drop1]; congr 1; omega
 obtain ⟨v, q1, _, _⟩ := while_split hm
 have hk : j - (q + 1) < (r0.takeWhile p).length := by omega
 have e3 : lim (r0.takeWhile p ++ v) (j - (q + 1)) = lim (r0.takeWhile p) (j - (q + 1)) := by simp only [lim, List.getD_eq_getElem?_getD, List.getElem?_append_left hk]
 rw [e, q1, e3]
 refine while_mem (l := r0) _ ?_
 unfold lim
 rw [List.getD_eq_getElem?_getD, List.getElem?_eq_getElem hk]
 exact List.getElem_mem hk
theorem while_out {p : Nat → Bool} {l r0 : List Nat} {q m d : Nat} (hD : l.drop q = d :: r0) (hm : (r0.takeWhile p).length = m) (h : q + 1 + m < l.length) : p (lim l (q + 1 + m)) = false := by
 have e1 : l.drop (q + 1) = r0 := by rw [← List.drop_drop, hD]; rfl
 have e : lim l (q + 1 + m) = lim r0 m := by rw [← e1, lim_drop1]
 have hl : r0.length = l.length - q - 1 := by have := congrArg List.length hD; rw [List.length_drop, List.length_cons] at this; omega
 have h2 := drop_lim (l := r0) (i := m) (by omega)
 rw [← hm] at h2
 rw [e, ← hm]
 exact while_next h2
theorem word_bad {c m : Nat} {r : List Nat} (h : isLt c = true) (hm : (r.takeWhile isLw).length = m) (h16 : 16 < 1 + m) : lexS c r = .bad := by
 obtain ⟨n1, n2⟩ := lt_not h
 unfold lexS; rw [if_neg (by rw [n1]; decide), if_neg n2, if_pos h, hm, if_pos h16]
theorem word_tok {c m : Nat} {r : List Nat} (h : isLt c = true) (hm : (r.takeWhile isLw).length = m) (h16 : ¬ 16 < 1 + m) : ∃ t, lexS c r = .tok 1 t (1 + m) := by
 obtain ⟨n1, n2⟩ := lt_not h
 exact ⟨_, by unfold lexS; rw [if_neg (by rw [n1]; decide), if_neg n2, if_pos h, hm, if_neg h16]⟩
theorem dig_not {c : Nat} (h : isDig c = true) : isBl c = false ∧ c ≠ 35 ∧ isLt c = false := by
 simp only [isDig, Bool.and_eq_true, decide_eq_true_eq] at h
 refine ⟨by simp [isBl]; omega, by omega, by simp [isLt]; omega⟩
theorem num_bad {c n : Nat} {r : List Nat} (h : isDig c = true) (hn : litLen (c :: r) = n) (hb : 400 < n ∨ stopN ((c :: r).drop n) = true) : lexS c r = .bad := by
 obtain ⟨n1, n2, n3⟩ := dig_not h
 unfold lexS; rw [if_neg (by rw [n1]; decide), if_neg n2, if_neg (by rw [n3]; decide), if_pos h, hn, if_pos hb]
theorem num_tok {c n : Nat} {r : List Nat} (h : isDig c = true) (hn : litLen (c :: r) = n) (h4 : n ≤ 400) (hs : stopN ((c :: r).drop n) = false) : ∃ t, lexS c r = .tok 2 t n := by
 obtain ⟨n1, n2, n3⟩ := dig_not h
 have hb : ¬ (400 < n ∨ stopN ((c :: r).drop n) = true) := by
  rintro (h1 | h1)
  · omega
  · rw [hs] at h1; cases h1
 exact ⟨_, by unfold lexS; rw [if_neg (by rw [n1]; decide), if_neg n2, if_neg (by rw [n3]; decide), if_pos h, hn, if_neg hb]⟩
theorem unit_bad {m : Nat} {r : List Nat} (hm : (r.takeWhile inUn).length = m) (hb : m = 0 ∨ 200 < m ∨ closeU (r.drop m) = false) : lexS 91 r = .bad := by
 unfold lexS; rw [if_neg (by decide), if_neg (by decide), if_neg (by decide), if_neg (by decide), if_pos rfl, hm, if_pos hb]
theorem unit_tok {m : Nat} {r : List Nat} (hm : (r.takeWhile inUn).length = m) (h0 : m ≠ 0) (h2 : ¬ 200 < m) (hc : closeU (r.drop m) = true) : lexS 91 r = .tok 4 (r.take m) (m + 2) := by
 have hb : ¬ (m = 0 ∨ 200 < m ∨ closeU (r.drop m) = false) := by
  rintro (h | h | h)
  · exact h0 h
  · exact h2 h
  · rw [hc] at h; cases h
 unfold lexS; rw [if_neg (by decide), if_neg (by decide), if_neg (by decide), if_neg (by decide), if_pos rfl, hm, if_neg hb]
theorem none_bad {c : Nat} {r : List Nat} (h1 : isBl c = false) (h2 : c ≠ 35) (h3 : isLt c = false) (h4 : isDig c = false) (h5 : c ≠ 91) (h6 : isSg c = false) : lexS c r = .bad := by
 unfold lexS; rw [if_neg (by rw [h1]; decide), if_neg h2, if_neg (by rw [h3]; decide), if_neg (by rw [h4]; decide), if_neg h5, if_neg (by rw [h6]; decide)]
theorem sign_tok {c : Nat} {r : List Nat} (h : isSg c = true) : lexS c r = .tok 3 [c] 1 := by
 have hc : c = 40 ∨ c = 41 ∨ c = 43 ∨ c = 45 ∨ c = 42 ∨ c = 47 ∨ c = 94 ∨ c = 61 ∨ c = 59 ∨ c = 58 := by simpa [isSg] using h
 rcases hc with rfl | rfl | rfl | rfl | rfl | rfl | rfl | rfl | rfl | rfl <;> rfl
theorem note_in {l r0 : List Nat} {p m j : Nat} (hD : l.drop p = 35 :: r0) (hm : (r0.takeWhile notNl).length = m) (h1 : p ≤ j) (h2 : j < p + 1 + m) : lim l j ≠ 10 := by
 have e : lim l j = lim (l.drop p) (j - p) := by rw [lim_drop1]; congr 1; omega
 rw [e, hD]
 rcases Nat.eq_zero_or_pos (j - p) with h | h
 · rw [h]; show (35 : Nat) ≠ 10; decide
 · have e2 : lim (35 :: r0) (j - p) = lim r0 (j - p - 1) := by
    obtain ⟨k, hk⟩ : ∃ k, j - p = k + 1 := ⟨j - p - 1, by omega⟩
    rw [hk]; rfl
   rw [e2]
   obtain ⟨v, q1, _, _⟩ := while_split hm
   have hk : j - p - 1 < (r0.takeWhile notNl).length := by omega
   rw [q1]
   have e3 : lim (r0.takeWhile notNl ++ v) (j - p - 1) = lim (r0.takeWhile notNl) (j - p - 1) := by simp only [lim, List.getD_eq_getElem?_getD, List.getElem?_append_left hk]
   rw [e3]
   refine notNl_of (x := r0.takeWhile notNl) (fun c hc => while_mem c hc) _ ?_
   unfold lim
   rw [List.getD_eq_getElem?_getD, List.getElem?_eq_getElem hk]
   exact List.getElem_mem hk
theorem note_out {l r0 : List Nat} {p m : Nat} (hD : l.drop p = 35 :: r0) (hm : (r0.takeWhile notNl).length = m) (h : p + 1 + m < l.length) : lim l (p + 1 + m) = 10 := by
 have e : lim l (p + 1 + m) = lim r0 m := by
  have e1 : l.drop (p + 1) = r0 := by rw [← List.drop_drop, hD]; rfl
  rw [← e1, lim_drop1]
 have hl : r0.length = l.length - p - 1 := by have := congrArg List.length hD; rw [List.length_drop, List.length_cons] at this; omega
 have h2 := drop_lim (l := r0) (i := m) (by omega)
 rw [← hm] at h2
 have h3 := while_next h2
 rw [e, ← hm]
 by_cases h4 : lim r0 (r0.takeWhile notNl).length = 10
 · exact h4
 · rw [show notNl (lim r0 (r0.takeWhile notNl).length) = true from decide_eq_true h4] at h3
   cases h3
set_option maxHeartbeats 16000000 in
set_option maxRecDepth 100000 in
theorem rxTokens_c (s : ByteArray) (hs : s.size ≤ 1000000000) (w : World) (ts : List Tk) (E P : Int) (hR : lexV (bytesOf s) = (ts, E, P)) :
 Calls Tryd.prog 9 #[.string s] w fun e w' => ∃ A n c, e = .returned (.agg (gotX A n c E P)) ∧ TokR w' A n c ts ∧ Below w.heap.size w w' := by
 have HL := Lib.hid (length_bytesOf s)
 by_cases h4 : 4000 < s.size
 · unfold lexV at hR
   rw [length_bytesOf, if_pos h4] at hR
   obtain ⟨rfl, rfl, rfl⟩ : [] = ts ∧ (2 : Int) = E ∧ (0 : Int) = P := by simpa using hR
   clear hR
   have HRf := Lib.hid (rowA_new w 30 (gotX none 0 0 2 0))
   have HE := Lib.hid (below_new w (.cells (gotX none 0 0 2 0) 30))
   go_enter Tryd.func9, Tryd.ntmps9
   go_wp2
   refine bodyPost_ret (results_cell_row rfl _ _ _ 30 (gotX none 0 0 (2) (0)) (0, 0) _ rfl HRf.out Tryd.underlying30 rfl sizeGX) rfl ?_
   exact ⟨none, 0, 0, rfl, TokR.nil _, HE.out⟩
 · have HR := Lib.hid hR
   have h4l : Hid (¬ 4000 < (bytesOf s).length) := by show ¬ _; rw [length_bytesOf]; exact h4
   clear hR
   have hz2 := rowA_new w 30 (gotX none 0 0 0 0)
   have b1 := below_new w (.cells (gotX none 0 0 0 0) 30)
   have hz3 := rowA_new (w.alloc (.cells (gotX none 0 0 0 0) 30)) 30 (gotX none 0 0 0 0)
   have b2 := below_new (w.alloc (.cells (gotX none 0 0 0 0) 30)) (.cells (gotX none 0 0 0 0) 30)
   replace hz2 := hz2.below b2
   have bw := below_two b1 b2
   have hsz2 : ((w.alloc (.cells (gotX none 0 0 0 0) 30)).alloc (.cells (gotX none 0 0 0 0) 30)).heap.size = w.heap.size + 2 := by simp
   simp only [World.size_alloc] at hz3
   clear b1 b2
   go_enter Tryd.func9, Tryd.ntmps9
   go_wp2
   generalize (w.alloc (.cells (gotX none 0 0 0 0) 30)).alloc (.cells (gotX none 0 0 0 0) 30) = w1 at *
   obtain ⟨B, eB⟩ : ∃ g, g = w.heap.size + 2 := ⟨_, rfl⟩
   obtain ⟨q3, e3⟩ : ∃ g, g = w.heap.size + 1 := ⟨_, rfl⟩
   obtain ⟨q2, e2⟩ : ∃ g, g = w.heap.size := ⟨_, rfl⟩
   have hB0 : Hid (w.heap.size ≤ B) := by show _ ≤ _; omega
   have hq2B : Hid (q2 < B) := by show _ < _; omega
   have hq3B : Hid (q3 < B) := by show _ < _; omega
   have hq23 : Hid (q3 ≠ q2) := by show _ ≠ _; omega
   have hq3b : Hid (w.heap.size ≤ q3) := by show _ ≤ _; omega
   have hq2b : Hid (w.heap.size ≤ q2) := by show _ ≤ _; omega
   have Hsz1 : Hid (B ≤ w1.heap.size) := by show _ ≤ _; omega
   rw [← e3] at hz3 ⊢
   rw [← e2] at hz2 ⊢
   have HZ2 := Lib.hid hz2
   have HZ3 := Lib.hid hz3
   have HBw := Lib.hid bw
   clear eB e3 e2 hz2 hz3 bw hsz2
   go_loopw [4] (fun iv wr => ∃ (p n c : Nat) (A : Option Addr) (us : List Tk), iv = .int .i64 (p : Int) ∧ p ≤ s.size ∧ Hid (n = us.length ∧ n ≤ c) ∧ Hid (LexJ (bytesOf s) us p) ∧ Hid (RowA wr q3 30 (gotX A n c 0 0)) ∧ Hid (RowA wr q2 30 (gotX none 0 0 0 0)) ∧ Hid (OwnR wr B 36 3 A n c (tkCells us)) ∧ Hid (B ≤ wr.heap.size) ∧ Hid (Below w.heap.size w wr)) (fun iv _ => s.size - (intOf iv).toNat)
   case atStart => exact ⟨0, 0, 0, none, [], rfl, Nat.zero_le _, ⟨rfl, Nat.le_refl _⟩, LexJ.start _, HZ3, HZ2, OwnR.nil _ _ _ _, Hsz1, HBw⟩
   case round =>
    clear HZ2 HZ3 HBw Hsz1
    obtain ⟨p, n, c, A, us, rfl, hp, HNC, HJ, HQ3, HQ2, HO, Hsz, HB⟩ := hrel
    by_cases hlt : p < s.size
    · obtain ⟨d, hd⟩ : ∃ d, (s[p]'hlt).toNat = d := ⟨_, rfl⟩
      have hdl : lim (bytesOf s) p = d := by rw [← Limb.byte_at s p hlt, hd]
      have hdr := drop_lim (l := bytesOf s) (i := p) (by rw [HL.out]; exact hlt)
      rw [hdl] at hdr
      generalize hr0 : (bytesOf s).drop (p + 1) = r0 at hdr
      have HD := Lib.hid hdr
      have HR0 := Lib.hid hr0
      have hd256 : d < 256 := by rw [← hd]; exact UInt8.toNat_lt _
      have hrl : Hid (r0.length + 1 + p = s.size) := by show _ = _; rw [← hr0, List.length_drop, HL.out]; omega
      clear hdl hdr hr0
      by_cases hb : isBl d = true
      · have HJ2 := Lib.hid (HJ.out.skip HD.out (skip_blank hb))
        have hb3 : d = 32 ∨ d = 9 ∨ d = 10 := by simpa [isBl, or_assoc] using hb
        clear hb HJ HD
        rcases hb3 with rfl | rfl | rfl
        all_goals as_aux_lemma =>
         go_wp2
         exact ⟨⟨p + 1, n, c, A, us, (by go_num), by omega, HNC, HJ2, HQ3, HQ2, HO, Hsz, HB⟩, by simp [intOf]; omega⟩
      · have hb3 : d ≠ 32 ∧ d ≠ 9 ∧ d ≠ 10 := by simpa [isBl, and_assoc] using hb
        obtain ⟨b1, b2, b3⟩ := hb3
        have e32 : ((d : Int) == 32) = false := by rw [beq_eq_false_iff_ne]; omega
        have e9 : ((d : Int) == 9) = false := by rw [beq_eq_false_iff_ne]; omega
        have e10 : ((d : Int) == 10) = false := by rw [beq_eq_false_iff_ne]; omega
        have HBl : Hid (isBl d = false) := by show _ = _; simpa using hb
        clear hb
        by_cases h35 : d = 35
        · subst h35
          obtain ⟨m, hm⟩ : ∃ m, (r0.takeWhile notNl).length = m := ⟨_, rfl⟩
          have HJ2 : Hid (LexJ (bytesOf s) us (p + (1 + m))) := by have h := HJ.out.skip HD.out skip_note; rw [hm] at h; exact h
          have hml : p + 1 + m ≤ s.size := by have h1 := hrl.out; have h2 : (r0.takeWhile notNl).length ≤ r0.length := (List.takeWhile_sublist _).length_le; omega
          have Hm := Lib.hid hm
          clear hm
          go_wp2_with fail
          go_loopw [4] (fun jv wy => ∃ j : Nat, jv = .int .i64 (j : Int) ∧ p ≤ j ∧ j ≤ p + 1 + m ∧ wr = wy) (fun jv _ => s.size - (intOf jv).toNat)
          case atStart => exact ⟨p, rfl, Nat.le_refl _, by omega, rfl⟩
          case round =>
           obtain ⟨j, rfl, hj1, hj2, rfl⟩ := hrel
           by_cases hjm : j < p + 1 + m
           · have hjs : j < s.size := by omega
             obtain ⟨d2, hd2⟩ : ∃ d2, (s[j]'hjs).toNat = d2 := ⟨_, rfl⟩
             have e2 : ((d2 : Int) == 10) = false := by
              have h1 : lim (bytesOf s) j = d2 := by rw [← Limb.byte_at s j hjs, hd2]
              have h2 := note_in HD.out Hm.out hj1 hjm
              rw [h1] at h2
              rw [beq_eq_false_iff_ne]; omega
             as_aux_lemma =>
              go_wp2
              exact ⟨⟨j + 1, by go_num, by omega, by omega, by first | rfl | trivial⟩, by simp [intOf]; omega⟩
           · obtain rfl : j = p + 1 + m := by omega
             have hpj : Hid (p + 1 + m = p + (1 + m)) := by show _ = _; omega
             by_cases hjs : p + 1 + m < s.size
             · obtain ⟨d2, hd2⟩ : ∃ d2, (s[p + 1 + m]'hjs).toNat = d2 := ⟨_, rfl⟩
               have e2 : d2 = 10 := by
                have h1 : lim (bytesOf s) (p + 1 + m) = d2 := by rw [← Limb.byte_at s _ hjs, hd2]
                rw [← h1]
                exact note_out HD.out Hm.out (by rw [HL.out]; exact hjs)
               subst e2
               clear HD HJ hj1 hj2 hjm Hm
               as_aux_lemma =>
                go_wp2
                exact ⟨⟨p + 1 + m, n, c, A, us, (by go_num), by omega, HNC, (by rw [hpj.out]; exact HJ2), HQ3, HQ2, HO, Hsz, HB⟩, by simp [intOf]; omega⟩
             · have hje : p + 1 + m = s.size := by omega
               clear HD HJ hj1 hj2 hjm Hm
               as_aux_lemma =>
                go_wp2
                exact ⟨⟨p + 1 + m, n, c, A, us, (by go_num), by omega, HNC, (by rw [hpj.out]; exact HJ2), HQ3, HQ2, HO, Hsz, HB⟩, by simp [intOf]; omega⟩
        · have e35 : ((d : Int) == 35) = false := by rw [beq_eq_false_iff_ne]; omega
          go_wp2_with fail
          by_cases hl : isLt d = true
          · as_aux_lemma =>
             have HLt := Lib.hid hl
             obtain ⟨m, hm⟩ : ∃ m, (r0.takeWhile isLw).length = m := ⟨_, rfl⟩
             have Hm := Lib.hid hm
             have hml : p + 1 + m ≤ s.size := by have h1 := hrl.out; have h2 : (r0.takeWhile isLw).length ≤ r0.length := (List.takeWhile_sublist _).length_le; omega
             clear hl hm
             refine (rxLetter_c d _ HLt.out _).mono ?_
             rintro e w2 ⟨rfl, rfl⟩
             go_wp2_with fail
             go_loopw [6] (fun jv wy => ∃ j : Nat, jv = .int .i64 (j : Int) ∧ p + 1 ≤ j ∧ j ≤ p + 1 + m ∧ wr = wy) (fun jv _ => s.size - (intOf jv).toNat)
             case atStart => exact ⟨p + 1, by go_num, Nat.le_refl _, by omega, rfl⟩
             case round =>
              obtain ⟨j, rfl, hj1, hj2, rfl⟩ := hrel
              by_cases hjm : j < p + 1 + m
              · have hjs : j < s.size := by omega
                obtain ⟨d2, hd2⟩ : ∃ d2, (s[j]'hjs).toNat = d2 := ⟨_, rfl⟩
                have HW : Hid (isLw d2 = true) := by show _ = _; rw [← hd2, Limb.byte_at s j hjs]; exact while_in HD.out Hm.out hj1 hjm
                by_cases hl2 : isLt d2 = true
                · have HL2 := Lib.hid hl2
                  clear hl2
                  as_aux_lemma =>
                   go_wp2_with (go_at_call 17; (with_reducible refine (rxLetter_c d2 _ HL2.out _).mono ?_); rintro e w2 ⟨rfl, rfl⟩)
                   exact ⟨⟨j + 1, by go_num, by omega, by omega, by first | rfl | trivial⟩, by simp [intOf]; omega⟩
                · have HL2 : Hid (isLt d2 = false) := by show _ = _; simpa using hl2
                  have HG2 : Hid (isDig d2 = true) := by have h := HW.out; unfold isLw at h; rw [HL2.out, Bool.false_or] at h; exact h
                  clear hl2
                  as_aux_lemma =>
                   go_wp2_with (first | (go_at_call 17; (with_reducible refine (rxLetter_c d2 _ HL2.out _).mono ?_); rintro e w2 ⟨rfl, rfl⟩) | (go_at_call 18; (with_reducible refine (rxDigit_c d2 _ HG2.out _).mono ?_); rintro e w2 ⟨rfl, rfl⟩))
                   exact ⟨⟨j + 1, by go_num, by omega, by omega, by first | rfl | trivial⟩, by simp [intOf]; omega⟩
              · have hjE : Hid (j = p + 1 + m) := by show _ = _; omega
                clear hjm hj2
                by_cases hjs : j < s.size
                · obtain ⟨d2, hd2⟩ : ∃ d2, (s[j]'hjs).toNat = d2 := ⟨_, rfl⟩
                  have HW : Hid (isLw d2 = false) := by show _ = _; rw [← hd2, Limb.byte_at s j hjs, hjE.out]; exact while_out HD.out Hm.out (by rw [HL.out, ← hjE.out]; exact hjs)
                  have HL2 : Hid (isLt d2 = false) := by have h := HW.out; unfold isLw at h; exact (Bool.or_eq_false_iff.1 h).1
                  have HG2 : Hid (isDig d2 = false) := by have h := HW.out; unfold isLw at h; exact (Bool.or_eq_false_iff.1 h).2
                  have hjs2 : j ≤ s.size := by have := hjE.out; omega
                  by_cases h16 : 16 < (j : Int) - (p : Int)
                  · have hb : Hid (lexS d r0 = .bad) := word_bad HLt.out Hm.out (by have := hjE.out; omega)
                    have hV := lexV_bad h4l.out (HJ.out.bad HD.out (hb.out))
                    rw [HR.out] at hV
                    obtain ⟨rfl, rfl, rfl⟩ : ts = [] ∧ E = 11 ∧ P = (p : Int) := by simpa using hV
                    clear hV
                    have HU := Lib.hid (fitsGX none 0 0 11 (p : Int))
                    have HRf := Lib.hid (RowA.fill HQ2.out (V' := gotX none 0 0 11 (p : Int)))
                    have HE := Lib.hid (below_fillRow HB.out hq2b.out (gotX none 0 0 11 (p : Int)))
                    go_wp2_with (first | first | (go_at_call 17; (with_reducible refine (rxLetter_c d2 _ HL2.out _).mono ?_); rintro e w2 ⟨rfl, rfl⟩) | (go_at_call 18; (with_reducible refine (rxDigit_c d2 _ HG2.out _).mono ?_); rintro e w2 ⟨rfl, rfl⟩) | (refine wpList_storeV (by rfl) _ _ _ (by rfl) _ (by rfl) _ (by rfl) _ _ (by assumption) (by assumption) ?_))
                    refine bodyPost_ret (results_cell_row rfl _ _ _ 30 (gotX none 0 0 (11) ((p : Int))) (0, 0) _ rfl HRf.out Tryd.underlying30 rfl sizeGX) rfl ?_
                    exact ⟨none, 0, 0, rfl, TokR.nil _, HE.out⟩
                  · obtain ⟨t, ht0⟩ := word_tok HLt.out Hm.out (r := r0) (by have := hjE.out; omega)
                    have ht := Lib.hid ht0
                    clear ht0
                    obtain ⟨U, hU⟩ : ∃ U, s.extract p j = U := ⟨_, rfl⟩
                    have Hsl : Hid (∀ W, (Instr.slice 9 (.string s) (some (.int .i64 (p : Int))) (some (.int .i64 (j : Int))) none).run Tryd.prog W = .ok (.string U) W) := slice_at hU (by omega) (by omega) (by omega) (by omega)
                    have HUx := Lib.hid hU
                    clear hU
                    have hUt : Hid (strOf t = U) := by show _ = _; rw [← strOf_bytesOf U, ← HUx.out, bytesOf_extract]; exact congrArg strOf (by rw [HD.out]; rw [show j - p = 1 + m by (have := hjE.out; omega)]; exact (raw_at (a := p) ht.out).2.symm)
                    have HJ2 := Lib.hid (by have h := HJ.out.tok HD.out ht.out; rw [show p + (1 + m) = j by (have := hjE.out; omega)] at h; exact h)
                    obtain ⟨S0, eS0⟩ : ∃ g, g = wr.heap.size := ⟨_, rfl⟩
                    have hS0 : Hid (S0 = wr.heap.size) := eS0
                    have hBS : Hid (B ≤ S0) := by show _ ≤ _; rw [eS0]; exact Hsz.out
                    have hOw : Hid (∀ g, Value.ownBlock (.slice A n c) = some g → B ≤ g ∧ g < S0) := by intro g e; rw [eS0]; exact HO.out.lt g e
                    have hn4 : n ≤ 4000 := by have := HJ.out.2.1; have := HNC.out.1; omega
                    clear eS0 HUx HD HJ
                    go_wp2_with (first | (go_at_call 17; (with_reducible refine (rxLetter_c d2 _ HL2.out _).mono ?_); rintro e w2 ⟨rfl, rfl⟩) | (go_at_call 18; (with_reducible refine (rxDigit_c d2 _ HG2.out _).mono ?_); rintro e w2 ⟨rfl, rfl⟩))
                    have hp4 : p ≤ 4000 := by omega
                    refine wp_of_eq (by kernel_rfl) (rxReg19 HQ3 HQ2 HO HB hB0 hq2B hq3B hq23 hq3b hS0 hBS hOw hn4 hp4 Hsl hUt (fun _ _ _ _ _ h => h) ?_)
                    intro A2 c2 wN y78 y79 y80 y81 y82 y83 y84 y85 y86 y87 y88 HQ3n HQ2n HOn hcn Hszn HBn
                    clear HQ3 HQ2 HO HB Hsz
                    have HNCn : Hid (n + 1 = (us ++ [(1, t, p)]).length ∧ n + 1 ≤ c2) := ⟨by rw [List.length_append, ← HNC.out.1]; rfl, hcn⟩
                    go_wp2
                    exact ⟨⟨j, n + 1, c2, A2, us ++ [(1, t, p)], rfl, by omega, HNCn, HJ2, HQ3n, HQ2n, HOn, Hszn, HBn⟩, by simp [intOf]; omega⟩
                · have hjz : s.size ≤ j := by omega
                  have hjs2 : j ≤ s.size := by have := hjE.out; omega
                  by_cases h16 : 16 < (j : Int) - (p : Int)
                  · have hb : Hid (lexS d r0 = .bad) := word_bad HLt.out Hm.out (by have := hjE.out; omega)
                    have hV := lexV_bad h4l.out (HJ.out.bad HD.out (hb.out))
                    rw [HR.out] at hV
                    obtain ⟨rfl, rfl, rfl⟩ : ts = [] ∧ E = 11 ∧ P = (p : Int) := by simpa using hV
                    clear hV
                    have HU := Lib.hid (fitsGX none 0 0 11 (p : Int))
                    have HRf := Lib.hid (RowA.fill HQ2.out (V' := gotX none 0 0 11 (p : Int)))
                    have HE := Lib.hid (below_fillRow HB.out hq2b.out (gotX none 0 0 11 (p : Int)))
                    go_wp2_with (refine wpList_storeV (by rfl) _ _ _ (by rfl) _ (by rfl) _ (by rfl) _ _ (by assumption) (by assumption) ?_)
                    refine bodyPost_ret (results_cell_row rfl _ _ _ 30 (gotX none 0 0 (11) ((p : Int))) (0, 0) _ rfl HRf.out Tryd.underlying30 rfl sizeGX) rfl ?_
                    exact ⟨none, 0, 0, rfl, TokR.nil _, HE.out⟩
                  · obtain ⟨t, ht0⟩ := word_tok HLt.out Hm.out (r := r0) (by have := hjE.out; omega)
                    have ht := Lib.hid ht0
                    clear ht0
                    obtain ⟨U, hU⟩ : ∃ U, s.extract p j = U := ⟨_, rfl⟩
                    have Hsl : Hid (∀ W, (Instr.slice 9 (.string s) (some (.int .i64 (p : Int))) (some (.int .i64 (j : Int))) none).run Tryd.prog W = .ok (.string U) W) := slice_at hU (by omega) (by omega) (by omega) (by omega)
                    have HUx := Lib.hid hU
                    clear hU
                    have hUt : Hid (strOf t = U) := by show _ = _; rw [← strOf_bytesOf U, ← HUx.out, bytesOf_extract]; exact congrArg strOf (by rw [HD.out]; rw [show j - p = 1 + m by (have := hjE.out; omega)]; exact (raw_at (a := p) ht.out).2.symm)
                    have HJ2 := Lib.hid (by have h := HJ.out.tok HD.out ht.out; rw [show p + (1 + m) = j by (have := hjE.out; omega)] at h; exact h)
                    obtain ⟨S0, eS0⟩ : ∃ g, g = wr.heap.size := ⟨_, rfl⟩
                    have hS0 : Hid (S0 = wr.heap.size) := eS0
                    have hBS : Hid (B ≤ S0) := by show _ ≤ _; rw [eS0]; exact Hsz.out
                    have hOw : Hid (∀ g, Value.ownBlock (.slice A n c) = some g → B ≤ g ∧ g < S0) := by intro g e; rw [eS0]; exact HO.out.lt g e
                    have hn4 : n ≤ 4000 := by have := HJ.out.2.1; have := HNC.out.1; omega
                    clear eS0 HUx HD HJ
                    go_wp2
                    have hp4 : p ≤ 4000 := by omega
                    refine wp_of_eq (by kernel_rfl) (rxReg19 HQ3 HQ2 HO HB hB0 hq2B hq3B hq23 hq3b hS0 hBS hOw hn4 hp4 Hsl hUt (fun _ _ _ _ _ h => h) ?_)
                    intro A2 c2 wN y78 y79 y80 y81 y82 y83 y84 y85 y86 y87 y88 HQ3n HQ2n HOn hcn Hszn HBn
                    clear HQ3 HQ2 HO HB Hsz
                    have HNCn : Hid (n + 1 = (us ++ [(1, t, p)]).length ∧ n + 1 ≤ c2) := ⟨by rw [List.length_append, ← HNC.out.1]; rfl, hcn⟩
                    go_wp2
                    exact ⟨⟨j, n + 1, c2, A2, us ++ [(1, t, p)], rfl, by omega, HNCn, HJ2, HQ3n, HQ2n, HOn, Hszn, HBn⟩, by simp [intOf]; omega⟩
          · have HnL : Hid (isLt d = false) := by show _ = _; simpa using hl
            clear hl
            refine (rxLetter_c d _ HnL.out _).mono ?_
            rintro e w2 ⟨rfl, rfl⟩
            go_wp2_with fail
            by_cases hg : isDig d = true
            · as_aux_lemma =>
               have HDg := Lib.hid hg
               clear hg
               refine (rxDigit_c d _ HDg.out _).mono ?_
               rintro e w2 ⟨rfl, rfl⟩
               obtain ⟨nn, hnn⟩ : ∃ n, litLen (d :: r0) = n := ⟨_, rfl⟩
               have Hnn := Lib.hid hnn
               have hnl : p + nn ≤ s.size := by have h1 := hrl.out; have h2 := litLen_le (d :: r0); rw [List.length_cons] at h2; omega
               have hn1 : 1 ≤ nn := by rw [← hnn]; exact litLen_pos HDg.out
               obtain ⟨X, hX⟩ : ∃ X, s.extract p s.size = X := ⟨_, rfl⟩
               have HX : Hid (bytesOf X = d :: r0) := by show _ = _; rw [← hX, tail_of]; exact HD.out
               have hXs : X.size = s.size - p := by rw [← hX]; exact tail_size s (by omega)
               have HLen := Lib.hid (refLLen_c X (by omega) wr)
               rw [show litLen (bytesOf X) = nn by rw [HX.out]; exact hnn] at HLen
               clear hnn
               go_wp2_with fail
               refine HLen.out.mono ?_
               rintro e w2 ⟨rfl, rfl⟩
               by_cases h400 : 400 < nn
               · have hb : Hid (lexS d r0 = .bad) := num_bad HDg.out Hnn.out (.inl h400)
                 have hV := lexV_bad h4l.out (HJ.out.bad HD.out (hb.out))
                 rw [HR.out] at hV
                 obtain ⟨rfl, rfl, rfl⟩ : ts = [] ∧ E = 11 ∧ P = (p : Int) := by simpa using hV
                 clear hV
                 have HU := Lib.hid (fitsGX none 0 0 11 (p : Int))
                 have HRf := Lib.hid (RowA.fill HQ2.out (V' := gotX none 0 0 11 (p : Int)))
                 have HE := Lib.hid (below_fillRow HB.out hq2b.out (gotX none 0 0 11 (p : Int)))
                 go_wp2_with (refine wpList_storeV (by rfl) _ _ _ (by rfl) _ (by rfl) _ (by rfl) _ _ (by assumption) (by assumption) ?_)
                 refine bodyPost_ret (results_cell_row rfl _ _ _ 30 (gotX none 0 0 (11) ((p : Int))) (0, 0) _ rfl HRf.out Tryd.underlying30 rfl sizeGX) rfl ?_
                 exact ⟨none, 0, 0, rfl, TokR.nil _, HE.out⟩
               · by_cases hjs : p + nn < s.size
                 · obtain ⟨d2, hd2⟩ : ∃ d2, (s[p + nn]'hjs).toNat = d2 := ⟨_, rfl⟩
                   have hdr2 : Hid (stopN ((d :: r0).drop nn) = (isLt d2 || decide (d2 = 46))) := by
                    show _ = _
                    rw [← HD.out, List.drop_drop, drop_lim (by rw [HL.out]; exact hjs)]
                    rw [← hd2, Limb.byte_at s _ hjs]; rfl
                   by_cases hl2 : isLt d2 = true
                   · have HL2 := Lib.hid hl2
                     clear hl2
                     have hb : Hid (lexS d r0 = .bad) := num_bad HDg.out Hnn.out (.inr (by rw [hdr2.out, HL2.out]; rfl))
                     have hV := lexV_bad h4l.out (HJ.out.bad HD.out (hb.out))
                     rw [HR.out] at hV
                     obtain ⟨rfl, rfl, rfl⟩ : ts = [] ∧ E = 11 ∧ P = (p : Int) := by simpa using hV
                     clear hV
                     have HU := Lib.hid (fitsGX none 0 0 11 (p : Int))
                     have HRf := Lib.hid (RowA.fill HQ2.out (V' := gotX none 0 0 11 (p : Int)))
                     have HE := Lib.hid (below_fillRow HB.out hq2b.out (gotX none 0 0 11 (p : Int)))
                     go_wp2_with (first | (go_at_call 17; (with_reducible refine (rxLetter_c d2 _ HL2.out _).mono ?_); rintro e w2 ⟨rfl, rfl⟩) | (refine wpList_storeV (by rfl) _ _ _ (by rfl) _ (by rfl) _ (by rfl) _ _ (by assumption) (by assumption) ?_))
                     refine bodyPost_ret (results_cell_row rfl _ _ _ 30 (gotX none 0 0 (11) ((p : Int))) (0, 0) _ rfl HRf.out Tryd.underlying30 rfl sizeGX) rfl ?_
                     exact ⟨none, 0, 0, rfl, TokR.nil _, HE.out⟩
                   · have HL2 : Hid (isLt d2 = false) := by show _ = _; simpa using hl2
                     clear hl2
                     by_cases h46 : d2 = 46
                     · have hb : Hid (lexS d r0 = .bad) := num_bad HDg.out Hnn.out (.inr (by rw [hdr2.out, decide_eq_true h46, Bool.or_true]))
                       have ed2_46 : ((d2 : Int) == 46) = true := by rw [beq_iff_eq]; omega
                       clear h46
                       have hV := lexV_bad h4l.out (HJ.out.bad HD.out (hb.out))
                       rw [HR.out] at hV
                       obtain ⟨rfl, rfl, rfl⟩ : ts = [] ∧ E = 11 ∧ P = (p : Int) := by simpa using hV
                       clear hV
                       have HU := Lib.hid (fitsGX none 0 0 11 (p : Int))
                       have HRf := Lib.hid (RowA.fill HQ2.out (V' := gotX none 0 0 11 (p : Int)))
                       have HE := Lib.hid (below_fillRow HB.out hq2b.out (gotX none 0 0 11 (p : Int)))
                       go_wp2_with (first | (go_at_call 17; (with_reducible refine (rxLetter_c d2 _ HL2.out _).mono ?_); rintro e w2 ⟨rfl, rfl⟩) | (refine wpList_storeV (by rfl) _ _ _ (by rfl) _ (by rfl) _ (by rfl) _ _ (by assumption) (by assumption) ?_))
                       refine bodyPost_ret (results_cell_row rfl _ _ _ 30 (gotX none 0 0 (11) ((p : Int))) (0, 0) _ rfl HRf.out Tryd.underlying30 rfl sizeGX) rfl ?_
                       exact ⟨none, 0, 0, rfl, TokR.nil _, HE.out⟩
                     · have hst : stopN ((d :: r0).drop nn) = false := by rw [hdr2.out, HL2.out, decide_eq_false h46]; rfl
                       have ed2_46 : ((d2 : Int) == 46) = false := by rw [beq_eq_false_iff_ne]; omega
                       obtain ⟨t, ht0⟩ := num_tok HDg.out Hnn.out (by omega) hst
                       have ht := Lib.hid ht0
                       clear ht0
                       obtain ⟨U, hU⟩ : ∃ U, s.extract p (p + nn) = U := ⟨_, rfl⟩
                       have Hsl : Hid (∀ W, (Instr.slice 9 (.string s) (some (.int .i64 (p : Int))) (some (.int .i64 ((p : Int) + (nn : Int)))) none).run Tryd.prog W = .ok (.string U) W) := slice_at hU (by omega) (by omega) (by omega) (by omega)
                       have HUx := Lib.hid hU
                       clear hU
                       have hUt : Hid (strOf t = U) := by show _ = _; rw [← strOf_bytesOf U, ← HUx.out, bytesOf_extract]; exact congrArg strOf (by rw [HD.out]; rw [show (p + nn) - p = nn by omega]; exact (raw_at (a := p) ht.out).2.symm)
                       have HJ2 := Lib.hid (by have h := HJ.out.tok HD.out ht.out; rw [show p + (nn) = p + nn by omega] at h; exact h)
                       obtain ⟨S0, eS0⟩ : ∃ g, g = wr.heap.size := ⟨_, rfl⟩
                       have hS0 : Hid (S0 = wr.heap.size) := eS0
                       have hBS : Hid (B ≤ S0) := by show _ ≤ _; rw [eS0]; exact Hsz.out
                       have hOw : Hid (∀ g, Value.ownBlock (.slice A n c) = some g → B ≤ g ∧ g < S0) := by intro g e; rw [eS0]; exact HO.out.lt g e
                       have hn4 : n ≤ 4000 := by have := HJ.out.2.1; have := HNC.out.1; omega
                       clear eS0 HUx HD HJ
                       go_wp2_with (go_at_call 17; (with_reducible refine (rxLetter_c d2 _ HL2.out _).mono ?_); rintro e w2 ⟨rfl, rfl⟩)
                       have hp4 : p ≤ 4000 := by omega
                       refine wp_of_eq (by kernel_rfl) (rxReg25 HQ3 HQ2 HO HB hB0 hq2B hq3B hq23 hq3b hS0 hBS hOw hn4 hp4 Hsl hUt (fun _ _ _ _ _ h => h) ?_)
                       intro A2 c2 wN y121 y122 y123 y124 y125 y126 y127 y128 y129 y130 y131 HQ3n HQ2n HOn hcn Hszn HBn
                       clear HQ3 HQ2 HO HB Hsz
                       have HNCn : Hid (n + 1 = (us ++ [(2, t, p)]).length ∧ n + 1 ≤ c2) := ⟨by rw [List.length_append, ← HNC.out.1]; rfl, hcn⟩
                       go_wp2
                       exact ⟨⟨p + nn, n + 1, c2, A2, us ++ [(2, t, p)], (by go_num), by omega, HNCn, HJ2, HQ3n, HQ2n, HOn, Hszn, HBn⟩, by simp [intOf]; omega⟩
                 · have hst : stopN ((d :: r0).drop nn) = false := by
                    rw [← HD.out, List.drop_drop, List.drop_eq_nil_of_le (by rw [HL.out]; omega)]; rfl
                   obtain ⟨t, ht0⟩ := num_tok HDg.out Hnn.out (by omega) hst
                   have ht := Lib.hid ht0
                   clear ht0
                   obtain ⟨U, hU⟩ : ∃ U, s.extract p (p + nn) = U := ⟨_, rfl⟩
                   have Hsl : Hid (∀ W, (Instr.slice 9 (.string s) (some (.int .i64 (p : Int))) (some (.int .i64 ((p : Int) + (nn : Int)))) none).run Tryd.prog W = .ok (.string U) W) := slice_at hU (by omega) (by omega) (by omega) (by omega)
                   have HUx := Lib.hid hU
                   clear hU
                   have hUt : Hid (strOf t = U) := by show _ = _; rw [← strOf_bytesOf U, ← HUx.out, bytesOf_extract]; exact congrArg strOf (by rw [HD.out]; rw [show (p + nn) - p = nn by omega]; exact (raw_at (a := p) ht.out).2.symm)
                   have HJ2 := Lib.hid (by have h := HJ.out.tok HD.out ht.out; rw [show p + (nn) = p + nn by omega] at h; exact h)
                   obtain ⟨S0, eS0⟩ : ∃ g, g = wr.heap.size := ⟨_, rfl⟩
                   have hS0 : Hid (S0 = wr.heap.size) := eS0
                   have hBS : Hid (B ≤ S0) := by show _ ≤ _; rw [eS0]; exact Hsz.out
                   have hOw : Hid (∀ g, Value.ownBlock (.slice A n c) = some g → B ≤ g ∧ g < S0) := by intro g e; rw [eS0]; exact HO.out.lt g e
                   have hn4 : n ≤ 4000 := by have := HJ.out.2.1; have := HNC.out.1; omega
                   clear eS0 HUx HD HJ
                   go_wp2
                   have hp4 : p ≤ 4000 := by omega
                   refine wp_of_eq (by kernel_rfl) (rxReg25 HQ3 HQ2 HO HB hB0 hq2B hq3B hq23 hq3b hS0 hBS hOw hn4 hp4 Hsl hUt (fun _ _ _ _ _ h => h) ?_)
                   intro A2 c2 wN y121 y122 y123 y124 y125 y126 y127 y128 y129 y130 y131 HQ3n HQ2n HOn hcn Hszn HBn
                   clear HQ3 HQ2 HO HB Hsz
                   have HNCn : Hid (n + 1 = (us ++ [(2, t, p)]).length ∧ n + 1 ≤ c2) := ⟨by rw [List.length_append, ← HNC.out.1]; rfl, hcn⟩
                   go_wp2
                   exact ⟨⟨p + nn, n + 1, c2, A2, us ++ [(2, t, p)], (by go_num), by omega, HNCn, HJ2, HQ3n, HQ2n, HOn, Hszn, HBn⟩, by simp [intOf]; omega⟩
            · have HnD : Hid (isDig d = false) := by show _ = _; simpa using hg
              clear hg
              refine (rxDigit_c d _ HnD.out _).mono ?_
              rintro e w2 ⟨rfl, rfl⟩
              by_cases h91 : d = 91
              · as_aux_lemma =>
                 have e91 : ((d : Int) == 91) = true := by rw [beq_iff_eq]; omega
                 have H91 := Lib.hid h91
                 clear h91
                 obtain ⟨m, hm⟩ : ∃ m, (r0.takeWhile inUn).length = m := ⟨_, rfl⟩
                 have Hm := Lib.hid hm
                 have hml : p + 1 + m ≤ s.size := by have h1 := hrl.out; have h2 : (r0.takeWhile inUn).length ≤ r0.length := (List.takeWhile_sublist _).length_le; omega
                 clear hm
                 go_wp2_with fail
                 go_loopw [6] (fun jv wy => ∃ j : Nat, jv = .int .i64 (j : Int) ∧ p + 1 ≤ j ∧ j ≤ p + 1 + m ∧ wr = wy) (fun jv _ => s.size - (intOf jv).toNat)
                 case atStart => exact ⟨p + 1, by go_num, Nat.le_refl _, by omega, rfl⟩
                 case round =>
                  obtain ⟨j, rfl, hj1, hj2, rfl⟩ := hrel
                  by_cases hjm : j < p + 1 + m
                  · have hjs : j < s.size := by omega
                    obtain ⟨d2, hd2⟩ : ∃ d2, (s[j]'hjs).toNat = d2 := ⟨_, rfl⟩
                    have HW : Hid (inUn d2 = true) := by show _ = _; rw [← hd2, Limb.byte_at s j hjs]; exact while_in HD.out Hm.out hj1 hjm
                    have hW2 : d2 ≠ 93 ∧ d2 ≠ 10 := by have h := HW.out; unfold inUn at h; simpa using h
                    obtain ⟨n93, n10⟩ := hW2
                    have ed2_93 : ((d2 : Int) == 93) = false := by rw [beq_eq_false_iff_ne]; omega
                    have ed2_10 : ((d2 : Int) == 10) = false := by rw [beq_eq_false_iff_ne]; omega
                    have x93 : ¬ ((d2 : Int) = 93) := by omega
                    have x10 : ¬ ((d2 : Int) = 10) := by omega
                    have f93 : ((d2 : Int) != 93) = true := by rw [bne_iff_ne]; omega
                    have f10 : ((d2 : Int) != 10) = true := by rw [bne_iff_ne]; omega
                    clear n93 n10
                    as_aux_lemma =>
                     go_wp2
                     exact ⟨⟨j + 1, by go_num, by omega, by omega, by first | rfl | trivial⟩, by simp [intOf]; omega⟩
                  · have hjE : Hid (j = p + 1 + m) := by show _ = _; omega
                    clear hjm hj2
                    have hr1 : Hid ((bytesOf s).drop (p + 1) = r0) := by show _ = _; rw [← List.drop_drop, HD.out]; rfl
                    by_cases hjs : j < s.size
                    · obtain ⟨d2, hd2⟩ : ∃ d2, (s[j]'hjs).toNat = d2 := ⟨_, rfl⟩
                      have HW : Hid (inUn d2 = false) := by show _ = _; rw [← hd2, Limb.byte_at s j hjs, hjE.out]; exact while_out HD.out Hm.out (by rw [HL.out, ← hjE.out]; exact hjs)
                      have hcl : Hid (closeU (r0.drop m) = decide (d2 = 93)) := by
                       show _ = _
                       rw [← hr1.out, List.drop_drop, ← hjE.out, drop_lim (by rw [HL.out]; exact hjs), ← hd2, Limb.byte_at s _ hjs]; rfl
                      by_cases h93 : d2 = 93
                      · have hc1 : Hid (closeU (r0.drop m) = true) := by show _ = _; rw [hcl.out]; exact decide_eq_true h93
                        subst h93
                        clear hcl HW
                        by_cases hm0 : (j : Int) = (p : Int) + 1
                        · have ejp : ((j : Int) == (p : Int) + 1) = true := by rw [beq_iff_eq]; exact hm0
                          have hm1 : Hid (m = 0) := by show _ = _; have := hjE.out; omega
                          clear hm0
                          have hb : Hid (lexS d r0 = .bad) := by show _ = _; rw [H91.out]; exact unit_bad Hm.out (.inl hm1.out)
                          have hV := lexV_bad h4l.out (HJ.out.bad HD.out (hb.out))
                          rw [HR.out] at hV
                          obtain ⟨rfl, rfl, rfl⟩ : ts = [] ∧ E = 11 ∧ P = (p : Int) := by simpa using hV
                          clear hV
                          have HU := Lib.hid (fitsGX none 0 0 11 (p : Int))
                          have HRf := Lib.hid (RowA.fill HQ2.out (V' := gotX none 0 0 11 (p : Int)))
                          have HE := Lib.hid (below_fillRow HB.out hq2b.out (gotX none 0 0 11 (p : Int)))
                          go_wp2_with (refine wpList_storeV (by rfl) _ _ _ (by rfl) _ (by rfl) _ (by rfl) _ _ (by assumption) (by assumption) ?_)
                          refine bodyPost_ret (results_cell_row rfl _ _ _ 30 (gotX none 0 0 (11) ((p : Int))) (0, 0) _ rfl HRf.out Tryd.underlying30 rfl sizeGX) rfl ?_
                          exact ⟨none, 0, 0, rfl, TokR.nil _, HE.out⟩
                        · have ejp : ((j : Int) == (p : Int) + 1) = false := by rw [beq_eq_false_iff_ne]; exact hm0
                          by_cases h200 : 200 < (j : Int) - (p : Int) - 1
                          · have hm1 : Hid (200 < m) := by show _ < _; have := hjE.out; omega
                            have hb : Hid (lexS d r0 = .bad) := by show _ = _; rw [H91.out]; exact unit_bad Hm.out (.inr (.inl hm1.out))
                            have hV := lexV_bad h4l.out (HJ.out.bad HD.out (hb.out))
                            rw [HR.out] at hV
                            obtain ⟨rfl, rfl, rfl⟩ : ts = [] ∧ E = 11 ∧ P = (p : Int) := by simpa using hV
                            clear hV
                            have HU := Lib.hid (fitsGX none 0 0 11 (p : Int))
                            have HRf := Lib.hid (RowA.fill HQ2.out (V' := gotX none 0 0 11 (p : Int)))
                            have HE := Lib.hid (below_fillRow HB.out hq2b.out (gotX none 0 0 11 (p : Int)))
                            go_wp2_with (refine wpList_storeV (by rfl) _ _ _ (by rfl) _ (by rfl) _ (by rfl) _ _ (by assumption) (by assumption) ?_)
                            refine bodyPost_ret (results_cell_row rfl _ _ _ 30 (gotX none 0 0 (11) ((p : Int))) (0, 0) _ rfl HRf.out Tryd.underlying30 rfl sizeGX) rfl ?_
                            exact ⟨none, 0, 0, rfl, TokR.nil _, HE.out⟩
                          · have hm1 : Hid (m ≠ 0 ∧ ¬ 200 < m) := by show _ ∧ _; have := hjE.out; constructor <;> omega
                            obtain ⟨t, ht1⟩ : ∃ t, t = r0.take m := ⟨_, rfl⟩
                            have ht : Hid (lexS d r0 = .tok 4 (r0.take m) (m + 2)) := by show _ = _; rw [H91.out]; exact unit_tok Hm.out hm1.out.1 hm1.out.2 hc1.out
                            rw [← ht1] at ht
                            have Ht1 := Lib.hid ht1
                            clear ht1 hm0
                            obtain ⟨U, hU⟩ : ∃ U, s.extract (p + 1) j = U := ⟨_, rfl⟩
                            have Hsl : Hid (∀ W, (Instr.slice 9 (.string s) (some (.int .i64 ((p : Int) + 1))) (some (.int .i64 (j : Int))) none).run Tryd.prog W = .ok (.string U) W) := slice_at hU (by omega) (by omega) (by omega) (by omega)
                            have HUx := Lib.hid hU
                            clear hU
                            have hUt : Hid (strOf t = U) := by show _ = _; rw [← strOf_bytesOf U, ← HUx.out, bytesOf_extract]; exact congrArg strOf (by rw [hr1.out, show j - (p + 1) = m by (have := hjE.out; omega)]; exact Ht1.out)
                            have HJ2 := Lib.hid (by have h := HJ.out.tok HD.out ht.out; rw [show p + (m + 2) = j + 1 by (have := hjE.out; omega)] at h; exact h)
                            obtain ⟨S0, eS0⟩ : ∃ g, g = wr.heap.size := ⟨_, rfl⟩
                            have hS0 : Hid (S0 = wr.heap.size) := eS0
                            have hBS : Hid (B ≤ S0) := by show _ ≤ _; rw [eS0]; exact Hsz.out
                            have hOw : Hid (∀ g, Value.ownBlock (.slice A n c) = some g → B ≤ g ∧ g < S0) := by intro g e; rw [eS0]; exact HO.out.lt g e
                            have hn4 : n ≤ 4000 := by have := HJ.out.2.1; have := HNC.out.1; omega
                            clear eS0 HUx HD HJ hr1
                            go_wp2
                            have hp4 : p ≤ 4000 := by omega
                            refine wp_of_eq (by kernel_rfl) (rxReg31 HQ3 HQ2 HO HB hB0 hq2B hq3B hq23 hq3b hS0 hBS hOw hn4 hp4 Hsl hUt (fun _ _ _ _ _ h => h) ?_)
                            intro A2 c2 wN y178 y179 y180 y181 y182 y183 y184 y185 y186 y187 y188 y189 HQ3n HQ2n HOn hcn Hszn HBn
                            clear HQ3 HQ2 HO HB Hsz
                            have HNCn : Hid (n + 1 = (us ++ [(4, t, p)]).length ∧ n + 1 ≤ c2) := ⟨by rw [List.length_append, ← HNC.out.1]; rfl, hcn⟩
                            go_wp2
                            exact ⟨⟨j + 1, n + 1, c2, A2, us ++ [(4, t, p)], (by go_num), by omega, HNCn, HJ2, HQ3n, HQ2n, HOn, Hszn, HBn⟩, by simp [intOf]; omega⟩
                      · have h10 : d2 = 10 := by
                         have h := HW.out
                         unfold inUn at h
                         rw [decide_eq_true h93, Bool.true_and] at h
                         simpa using h
                        have hc1 : Hid (closeU (r0.drop m) = false) := by show _ = _; rw [hcl.out]; exact decide_eq_false h93
                        subst h10
                        clear hcl HW h93
                        have hb : Hid (lexS d r0 = .bad) := by show _ = _; rw [H91.out]; exact unit_bad Hm.out (.inr (.inr hc1.out))
                        have hV := lexV_bad h4l.out (HJ.out.bad HD.out (hb.out))
                        rw [HR.out] at hV
                        obtain ⟨rfl, rfl, rfl⟩ : ts = [] ∧ E = 11 ∧ P = (p : Int) := by simpa using hV
                        clear hV
                        have HU := Lib.hid (fitsGX none 0 0 11 (p : Int))
                        have HRf := Lib.hid (RowA.fill HQ2.out (V' := gotX none 0 0 11 (p : Int)))
                        have HE := Lib.hid (below_fillRow HB.out hq2b.out (gotX none 0 0 11 (p : Int)))
                        go_wp2_with (refine wpList_storeV (by rfl) _ _ _ (by rfl) _ (by rfl) _ (by rfl) _ _ (by assumption) (by assumption) ?_)
                        refine bodyPost_ret (results_cell_row rfl _ _ _ 30 (gotX none 0 0 (11) ((p : Int))) (0, 0) _ rfl HRf.out Tryd.underlying30 rfl sizeGX) rfl ?_
                        exact ⟨none, 0, 0, rfl, TokR.nil _, HE.out⟩
                    · have hjz : s.size = j := by have := hjE.out; omega
                      have ejs : ((j : Int) == (s.size : Int)) = true := by rw [beq_iff_eq]; omega
                      have hc1 : Hid (closeU (r0.drop m) = false) := by
                       show _ = _
                       rw [← hr1.out, List.drop_drop, ← hjE.out, List.drop_eq_nil_of_le (by rw [HL.out]; omega)]; rfl
                      clear hjz
                      have hb : Hid (lexS d r0 = .bad) := by show _ = _; rw [H91.out]; exact unit_bad Hm.out (.inr (.inr hc1.out))
                      have hV := lexV_bad h4l.out (HJ.out.bad HD.out (hb.out))
                      rw [HR.out] at hV
                      obtain ⟨rfl, rfl, rfl⟩ : ts = [] ∧ E = 11 ∧ P = (p : Int) := by simpa using hV
                      clear hV
                      have HU := Lib.hid (fitsGX none 0 0 11 (p : Int))
                      have HRf := Lib.hid (RowA.fill HQ2.out (V' := gotX none 0 0 11 (p : Int)))
                      have HE := Lib.hid (below_fillRow HB.out hq2b.out (gotX none 0 0 11 (p : Int)))
                      go_wp2_with (refine wpList_storeV (by rfl) _ _ _ (by rfl) _ (by rfl) _ (by rfl) _ _ (by assumption) (by assumption) ?_)
                      refine bodyPost_ret (results_cell_row rfl _ _ _ 30 (gotX none 0 0 (11) ((p : Int))) (0, 0) _ rfl HRf.out Tryd.underlying30 rfl sizeGX) rfl ?_
                      exact ⟨none, 0, 0, rfl, TokR.nil _, HE.out⟩
              · as_aux_lemma =>
                 have e91 : ((d : Int) == 91) = false := by rw [beq_eq_false_iff_ne]; omega
                 have HB91 := Lib.hid h91
                 clear h91
                 by_cases hsg : isSg d = true
                 · have ht := Lib.hid (sign_tok (r := r0) hsg)
                   have hs3 : d = 40 ∨ d = 41 ∨ d = 43 ∨ d = 45 ∨ d = 42 ∨ d = 47 ∨ d = 94 ∨ d = 61 ∨ d = 59 ∨ d = 58 := by simpa [isSg] using hsg
                   have HS3 := Lib.hid hs3
                   obtain ⟨t, ht1⟩ : ∃ t, t = [d] := ⟨_, rfl⟩
                   rw [← ht1] at ht
                   clear ht1 hsg hs3
                   go_upto_region 33 with fail
                   go_cut [192] from 193 to 230 (fun v wx => v = .bool true ∧ wr = wx)
                   case first =>
                    have hs3 := HS3.out
                    clear HS3
                    rcases hs3 with rfl | rfl | rfl | rfl | rfl | rfl | rfl | rfl | rfl | rfl
                    all_goals go_wp2
                    all_goals go_meet
                    all_goals exact ⟨rfl, rfl⟩
                   case rest =>
                    obtain ⟨rfl, rfl⟩ := hcut
                    clear HS3
                    obtain ⟨U, hU⟩ : ∃ U, s.extract p (p + 1) = U := ⟨_, rfl⟩
                    have Hsl : Hid (∀ W, (Instr.slice 9 (.string s) (some (.int .i64 (p : Int))) (some (.int .i64 ((p : Int) + 1))) none).run Tryd.prog W = .ok (.string U) W) := slice_at hU (by omega) (by omega) (by omega) (by omega)
                    have HUx := Lib.hid hU
                    clear hU
                    have hUt : Hid (strOf t = U) := by show _ = _; rw [← strOf_bytesOf U, ← HUx.out, bytesOf_extract]; exact congrArg strOf (by rw [HD.out]; rw [show (p + 1) - p = 1 by omega]; exact (raw_at (a := p) ht.out).2.symm)
                    have HJ2 := Lib.hid (by have h := HJ.out.tok HD.out ht.out; rw [show p + (1) = p + 1 by omega] at h; exact h)
                    obtain ⟨S0, eS0⟩ : ∃ g, g = wr.heap.size := ⟨_, rfl⟩
                    have hS0 : Hid (S0 = wr.heap.size) := eS0
                    have hBS : Hid (B ≤ S0) := by show _ ≤ _; rw [eS0]; exact Hsz.out
                    have hOw : Hid (∀ g, Value.ownBlock (.slice A n c) = some g → B ≤ g ∧ g < S0) := by intro g e; rw [eS0]; exact HO.out.lt g e
                    have hn4 : n ≤ 4000 := by have := HJ.out.2.1; have := HNC.out.1; omega
                    clear eS0 HUx HD HJ
                    go_wp2
                    have hp4 : p ≤ 4000 := by omega
                    refine wp_of_eq (by kernel_rfl) (rxReg34 HQ3 HQ2 HO HB hB0 hq2B hq3B hq23 hq3b hS0 hBS hOw hn4 hp4 Hsl hUt (fun _ _ _ _ _ h => h) ?_)
                    intro A2 c2 wN y231 y232 y233 y234 y235 y236 y237 y238 y239 y240 y241 HQ3n HQ2n HOn hcn Hszn HBn
                    clear HQ3 HQ2 HO HB Hsz
                    have HNCn : Hid (n + 1 = (us ++ [(3, t, p)]).length ∧ n + 1 ≤ c2) := ⟨by rw [List.length_append, ← HNC.out.1]; rfl, hcn⟩
                    go_wp2
                    exact ⟨⟨p + 1, n + 1, c2, A2, us ++ [(3, t, p)], (by go_num), by omega, HNCn, HJ2, HQ3n, HQ2n, HOn, Hszn, HBn⟩, by simp [intOf]; omega⟩
                 · have hs3 : d ≠ 40 ∧ d ≠ 41 ∧ d ≠ 43 ∧ d ≠ 45 ∧ d ≠ 42 ∧ d ≠ 47 ∧ d ≠ 94 ∧ d ≠ 61 ∧ d ≠ 59 ∧ d ≠ 58 := by simpa [isSg] using hsg
                   obtain ⟨g40, g41, g43, g45, g42, g47, g94, g61, g59, g58⟩ := hs3
                   have e40 : ((d : Int) == 40) = false := by rw [beq_eq_false_iff_ne]; omega
                   have e41 : ((d : Int) == 41) = false := by rw [beq_eq_false_iff_ne]; omega
                   have e43 : ((d : Int) == 43) = false := by rw [beq_eq_false_iff_ne]; omega
                   have e45 : ((d : Int) == 45) = false := by rw [beq_eq_false_iff_ne]; omega
                   have e42 : ((d : Int) == 42) = false := by rw [beq_eq_false_iff_ne]; omega
                   have e47 : ((d : Int) == 47) = false := by rw [beq_eq_false_iff_ne]; omega
                   have e94 : ((d : Int) == 94) = false := by rw [beq_eq_false_iff_ne]; omega
                   have e61 : ((d : Int) == 61) = false := by rw [beq_eq_false_iff_ne]; omega
                   have e59 : ((d : Int) == 59) = false := by rw [beq_eq_false_iff_ne]; omega
                   have e58 : ((d : Int) == 58) = false := by rw [beq_eq_false_iff_ne]; omega
                   have hb : Hid (lexS d r0 = .bad) := none_bad HBl.out h35 HnL.out HnD.out HB91.out (by simpa using hsg)
                   clear hsg g40 g41 g43 g45 g42 g47 g94 g61 g59 g58
                   have hV := lexV_bad h4l.out (HJ.out.bad HD.out (hb.out))
                   rw [HR.out] at hV
                   obtain ⟨rfl, rfl, rfl⟩ : ts = [] ∧ E = 11 ∧ P = (p : Int) := by simpa using hV
                   clear hV
                   have HU := Lib.hid (fitsGX none 0 0 11 (p : Int))
                   have HRf := Lib.hid (RowA.fill HQ2.out (V' := gotX none 0 0 11 (p : Int)))
                   have HE := Lib.hid (below_fillRow HB.out hq2b.out (gotX none 0 0 11 (p : Int)))
                   go_wp2_with (refine wpList_storeV (by rfl) _ _ _ (by rfl) _ (by rfl) _ (by rfl) _ _ (by assumption) (by assumption) ?_)
                   refine bodyPost_ret (results_cell_row rfl _ _ _ 30 (gotX none 0 0 (11) ((p : Int))) (0, 0) _ rfl HRf.out Tryd.underlying30 rfl sizeGX) rfl ?_
                   exact ⟨none, 0, 0, rfl, TokR.nil _, HE.out⟩
    · have hV := lexV_ok h4l.out (HJ.out.done (by rw [HL.out]; omega))
      rw [HR.out] at hV
      obtain ⟨rfl, rfl, rfl⟩ : ts = us ∧ E = 0 ∧ P = 0 := by simpa using hV
      clear hV HR HJ
      have HI := Lib.hid HQ3.out.inV
      have HMx := Lib.hid (manyGX A n c 0 0)
      have HU := Lib.hid (fitsGX A n c 0 0)
      have HRf := Lib.hid (RowA.fill HQ2.out (V' := gotX A n c 0 0))
      have HE := Lib.hid (below_fillRow HB.out hq2b.out (gotX A n c 0 0))
      have HOf : Hid (OwnR (wr.setRow q2 (gotX A n c 0 0)) B 36 3 A n c (tkCells ts)) := ownR_far HO.out hq2B.out
      go_wp2_with (first | (refine wpList_loadV (by rfl) _ _ (by rfl) _ _ (by rfl) _ (by assumption) (by assumption) ?_) | (refine wpList_storeV (by rfl) _ _ _ (by rfl) _ (by rfl) _ (by rfl) _ _ (by assumption) (by assumption) ?_))
      refine bodyPost_ret (results_cell_row rfl _ _ _ 30 (gotX A n c (0) (0)) (0, 0) _ rfl HRf.out Tryd.underlying30 rfl sizeGX) rfl ?_
      exact ⟨A, n, c, rfl, ⟨HNC.out.1, HNC.out.2, _, HOf.out⟩, HE.out⟩
end Go.Proofs.YthjnepfpohmpkaaDoor

/- LexTells is true at every input: the tokens of any text, or where none begins, are those of the reference; so is whether any text is a name. Conditions: the given statement's own (the tables of kinds read as the card ties them). -/
namespace Go.Proofs.YthjnepfpohmpkaaDoor.lawLexTells
open Go.ChangeShapes Go.WideShapes Go.ChangeAt Go.RowKit Limb
set_option linter.unusedVariables false
set_option maxHeartbeats 8000000 in
set_option maxRecDepth 100000 in
theorem walk (s_s : ByteArray) (s_t : ByteArray) (w : World) (z_s : s_s.size ≤ maxLen) (z_t : s_t.size ≤ maxLen) (HT : XTab w) :
 Calls Tryd.prog 3 #[.string s_s, .string s_t] w fun e w' => e = .returned (.bool true) ∧ Below w.heap.size w w' := by
 have HT0 := Lib.hid HT
 clear HT
 have bw := bel_refl w
 by_cases h45 : 4500 < s_s.size
 · have hgt : (4500 : Int) < (s_s.size : Int) := by omega
   go_enter Tryd.func3, Tryd.ntmps3
   go_wp2_with fail
   refine (wakes_any w (Lib.hid (HT0.out.below bw))).mono ?_
   rintro e w1 ⟨rfl, bn⟩
   replace bw := below_two bw bn
   clear bn
   go_wp2
   go_ret
   exact ⟨rfl, bw⟩
 · have hgt : ¬ ((4500 : Int) < (s_s.size : Int)) := by omega
   by_cases h5 : 500 < s_t.size
   · have hgt2 : (500 : Int) < (s_t.size : Int) := by omega
     go_enter Tryd.func3, Tryd.ntmps3
     go_wp2_with fail
     refine (wakes_any w (Lib.hid (HT0.out.below bw))).mono ?_
     rintro e w1 ⟨rfl, bn⟩
     replace bw := below_two bw bn
     clear bn
     go_wp2
     go_ret
     exact ⟨rfl, bw⟩
   · have hgt2 : ¬ ((500 : Int) < (s_t.size : Int)) := by omega
     obtain ⟨ts, E, Pp, hV⟩ : ∃ ts E Pp, lexV (bytesOf s_s) = (ts, E, Pp) := ⟨_, _, _, rfl⟩
     have HV := Lib.hid hV
     obtain ⟨v, hv⟩ : ∃ v, isNam (bytesOf s_t) = v := ⟨_, rfl⟩
     have HN := Lib.hid hv
     have hzs : s_s.size ≤ 1000000000 := by omega
     have hzt : s_t.size ≤ 9223372036854775807 := by omega
     clear hV hv
     go_enter Tryd.func3, Tryd.ntmps3
     go_wp2_with fail
     refine (lkTokens_c s_s hzs w (HT0.out.below bw) ts (E) (Pp) HV.out).mono ?_
     rintro e w1 ⟨A_l, n_l, c_l, rfl, h_tl, bn⟩
     replace bw := below_two bw bn
     clear bn
     have HU_f := Lib.hid (fitsF (E) (Pp))
     have h_rf := rowA_new w1 26 (fltC (E) (Pp))
     have bn := below_new w1 (.cells (fltC (E) (Pp)) 26)
     replace h_tl := h_tl.below bn
     replace bw := below_two bw bn
     clear bn
     go_wp2_with (refine wpList_storeNew (by rfl) _ _ _ (by rfl) _ _ _ (by rfl) (by rfl) (by assumption) ?_)
     generalize w1.alloc (.cells (fltC (E) (Pp)) 26) = w2 at *
     obtain ⟨q_f, eg⟩ : ∃ g, g = w1.heap.size := ⟨_, rfl⟩
     rw [← eg] at h_rf ⊢
     clear eg
     refine (rxTokens_c s_s hzs w2 ts E Pp HV.out).mono ?_
     rintro e w3 ⟨A_g, n_g, c_g, rfl, h_tg, bn⟩
     replace h_tl := h_tl.below bn
     replace h_rf := h_rf.below bn
     replace bw := below_two bw bn
     clear bn
     have HU_g := Lib.hid (fitsGX A_g n_g c_g E Pp)
     have h_rg := rowA_new w3 30 (gotX A_g n_g c_g E Pp)
     have bn := below_new w3 (.cells (gotX A_g n_g c_g E Pp) 30)
     replace h_tl := h_tl.below bn
     replace h_rf := h_rf.below bn
     replace h_tg := h_tg.below bn
     replace bw := below_two bw bn
     clear bn
     have kg0 := h_rg.cell (k := 0) (v := .slice A_g n_g c_g) rfl
     have kg1 := h_rg.cell (k := 1) (v := .int .i64 E) rfl
     have kg2 := h_rg.cell (k := 2) (v := .int .i64 Pp) rfl
     have k0_f := h_rf.cell (k := 0) (v := .int .i64 (E)) rfl
     have k1_f := h_rf.cell (k := 1) (v := .int .i64 (Pp)) rfl
     go_wp2_with (refine wpList_storeNew (by rfl) _ _ _ (by rfl) _ _ _ (by rfl) (by rfl) (by assumption) ?_)
     clear kg0 kg1 kg2 k0_f k1_f
     generalize w3.alloc (.cells (gotX A_g n_g c_g E Pp) 30) = w4 at *
     obtain ⟨q_g, eg⟩ : ∃ g, g = w3.heap.size := ⟨_, rfl⟩
     rw [← eg] at h_rg ⊢
     clear eg
     refine (kTokens_c h_tl h_tg).mono ?_
     rintro e w5 ⟨rfl, bn⟩
     replace h_tl := h_tl.below bn
     replace h_rf := h_rf.below bn
     replace h_tg := h_tg.below bn
     replace h_rg := h_rg.below bn
     replace bw := below_two bw bn
     clear bn
     have kg0 := h_rg.cell (k := 0) (v := .slice A_g n_g c_g) rfl
     have kg1 := h_rg.cell (k := 1) (v := .int .i64 E) rfl
     have kg2 := h_rg.cell (k := 2) (v := .int .i64 Pp) rfl
     have k0_f := h_rf.cell (k := 0) (v := .int .i64 (E)) rfl
     have k1_f := h_rf.cell (k := 1) (v := .int .i64 (Pp)) rfl
     go_wp2_with fail
     clear kg0 kg1 kg2 k0_f k1_f
     have HTn : Hid (NTab w5) := (HT0.out.below bw).2
     refine (lkIsName_c s_t hzt w5 HTn.out v HN.out).mono ?_
     rintro e wx ⟨rfl, rfl⟩
     go_wp2_with fail
     refine (rxIsName_c s_t hzt w5 v HN.out).mono ?_
     rintro e wx ⟨rfl, rfl⟩
     cases v with
     | true =>
      go_wp2_with fail
      refine (wakes_any w5 (Lib.hid (HT0.out.below bw))).mono ?_
      rintro e w6 ⟨rfl, bn⟩
      replace h_tl := h_tl.below bn
      replace h_rf := h_rf.below bn
      replace h_tg := h_tg.below bn
      replace h_rg := h_rg.below bn
      replace bw := below_two bw bn
      clear bn
      go_wp2
      go_ret
      exact ⟨by first | rfl | simp, bw⟩
     | false =>
      go_wp2_with fail
      refine (wakes_any w5 (Lib.hid (HT0.out.below bw))).mono ?_
      rintro e w6 ⟨rfl, bn⟩
      replace h_tl := h_tl.below bn
      replace h_rf := h_rf.below bn
      replace h_tg := h_tg.below bn
      replace h_rg := h_rg.below bn
      replace bw := below_two bw bn
      clear bn
      go_wp2
      go_ret
      exact ⟨by first | rfl | simp, bw⟩
theorem tab_of {W : World} (h : laidMet Tryd.prog Rows.lexTellsRow.laid W) : XTab W := by
 refine ⟨?_, ?_⟩
 · first | exact kinds_tab (laidMet_drop 0 h) (by decide +kernel) | exact kinds_tab (laidMet_drop 1 h) (by decide +kernel) | exact kinds_tab (laidMet_drop 2 h) (by decide +kernel) | exact kinds_tab (laidMet_drop 3 h) (by decide +kernel) | exact kinds_tab (laidMet_drop 4 h) (by decide +kernel) | exact kinds_tab (laidMet_drop 5 h) (by decide +kernel) | exact kinds_tab (laidMet_drop 6 h) (by decide +kernel) | exact kinds_tab (laidMet_drop 7 h) (by decide +kernel) | exact kinds_tab (laidMet_drop 8 h) (by decide +kernel) | exact kinds_tab (laidMet_drop 9 h) (by decide +kernel) | exact kinds_tab (laidMet_drop 10 h) (by decide +kernel) | exact kinds_tab (laidMet_drop 11 h) (by decide +kernel) | exact kinds_tab (laidMet_drop 12 h) (by decide +kernel) | exact kinds_tab (laidMet_drop 13 h) (by decide +kernel)
 · first | exact lkinds_tab (laidMet_drop 0 h) (by decide +kernel) | exact lkinds_tab (laidMet_drop 1 h) (by decide +kernel) | exact lkinds_tab (laidMet_drop 2 h) (by decide +kernel) | exact lkinds_tab (laidMet_drop 3 h) (by decide +kernel) | exact lkinds_tab (laidMet_drop 4 h) (by decide +kernel) | exact lkinds_tab (laidMet_drop 5 h) (by decide +kernel) | exact lkinds_tab (laidMet_drop 6 h) (by decide +kernel) | exact lkinds_tab (laidMet_drop 7 h) (by decide +kernel) | exact lkinds_tab (laidMet_drop 8 h) (by decide +kernel) | exact lkinds_tab (laidMet_drop 9 h) (by decide +kernel) | exact lkinds_tab (laidMet_drop 10 h) (by decide +kernel) | exact lkinds_tab (laidMet_drop 11 h) (by decide +kernel) | exact lkinds_tab (laidMet_drop 12 h) (by decide +kernel) | exact lkinds_tab (laidMet_drop 13 h) (by decide +kernel)
set_option maxRecDepth 100000 in
theorem lifted (os : Os) (started : os.Started) (H : Type) (enc : TypeId × Value → H) :
 ReturnsInHanded {} Tryd.checked os 3 .any (fun w args => (Rows.lexTellsSpec.pre enc Tryd.prog Tryd.f3 [] false w args ∧ laidMetH Tryd.prog Rows.lexTellsRow.laid w) ∧ sizedMet enc Tryd.prog Tryd.f3 (OpenSpec.ofChange Rows.lexTellsSpec) false w args)
  (Rows.lexTellsSpec.post enc Tryd.prog Tryd.f3 false true false false) := by
 refine returnsInHanded_of_change_and (C := Tryd.checked) (X := fun w _ => laidMetH Tryd.prog Rows.lexTellsRow.laid w) (fun _ _ _ hh h => h.of_heap hh) own started (by kernel_rfl) Tryd.func3
  (ChangeSpec.witness_shaped (enc := enc) (C := Tryd.checked) (os := os) (X := fun w _ => laidMetH Tryd.prog Rows.lexTellsRow.laid w) false (World.laidAll Tryd.prog os Rows.lexTellsRow.laid) #[.string ⟨#[]⟩, .string ⟨#[]⟩] 8 (World.laidAll_os _ _ _)
    (World.shaped_of_ZipB (by kernel_rfl) (by kernel_rfl)) (by kernel_rfl) (by kernel_rfl) (by kernel_rfl)
    (by rw [MakeChecks.laidMetH_plain _ _ _ (by kernel_rfl)]; exact laidMet_laidAll _ (by kernel_rfl) (by kernel_rfl))) ?_
 intro W base args ds gs before hval0 hW _ _ hL _
 have hval : ∀ (j : Nat) t v, Tryd.f3.params[j]? = some t → args[j]? = some v → Value.okWide Tryd.prog W .any base t v := hval0
 have hW' := hW
 obtain ⟨p, q, hA0, hV, rfl, hfz, hnd⟩ := hW
 have hA : DataW.TrodAll enc Tryd.prog W 0 (fun _ => true) true Tryd.f3.params.toList args.toList ds p := hA0
 rw [Tryd.params3] at hA hval
 obtain ⟨v0, vs0, d0, ds0, p0, q0, hargs, rfl, rfl, h0, r0⟩ := trodAll_cons hA
 obtain ⟨v1, vs1, d1, ds1, p1, q1, rfl, rfl, rfl, h1, r1⟩ := trodAll_cons r0
 obtain ⟨rfl, rfl, rfl⟩ := trodAll_nil r1
 obtain rfl : args = #[v0, v1] := by cases args; simp_all
 obtain ⟨rfl, rfl⟩ := trodVars_none hV
 obtain ⟨a0, rfl, rfl, rfl, w0⟩ := Go.ChangeMaps.open_string Tryd.underlying9 (hval 0 9 v0 rfl rfl) h0
 obtain ⟨a1, rfl, rfl, rfl, w1⟩ := Go.ChangeMaps.open_string Tryd.underlying9 (hval 1 9 v1 rfl rfl) h1
 clear hA0 hval0
 simp only [List.append_nil] at hW'
 rw [MakeChecks.laidMetH_plain _ _ _ (by kernel_rfl)] at hL
 refine (walk a0 a1 W w0 w1 (tab_of hL)).mono fun e W' ⟨he, bel⟩ => ?_
 subst he
 exact ⟨_, rfl, _, _, _, [], _, [], hW', trodAll_mk1 (shut_bool Tryd.underlying4 _), (trodAll_cons_mk (Go.ChangeMaps.shut_string Tryd.underlying9 w0) (trodAll_cons_mk (Go.ChangeMaps.shut_string Tryd.underlying9 w1) trodAll_mk0)), rfl, bel.frame _, fun h => by cases h⟩
theorem over : Rows.lexTellsRow.holds Tryd.pinned (OpenSpec.ofChange Rows.lexTellsSpec) :=
 OpenClaim.holds_of_wide 3 Tryd.f3 rfl rfl rfl rfl rfl rfl rfl ⟨rfl, rfl, rfl, rfl, rfl⟩ rfl rfl rfl rfl rfl (by kernel_rfl) Tryd.func3 (by kernel_rfl)
  (of_decide_eq_true (by kernel_rfl)) (by unfold Func.isWrapper; first | (rw [if_pos (by decide +kernel)]; kernel_rfl) | (rw [if_neg (by decide +kernel)]; exact ⟨rfl, rfl⟩))
  (fun os started H enc _ => lifted os started H enc)
theorem proved : Rows.LexTellsCardSaid :=
 Claim7.holds_tied_plain_at .later [] Rows.lexTellsCard.laidKinds true Rows.lexTellsCard.stood.harness Rows.lexTellsCard.stood.looks
  over (fun _ h => by cases h) (by kernel_rfl) (fun _ h => by cases h) lexTells_row_tie rfl ⟨rfl, rfl⟩ (by kernel_rfl) rfl
  (fun f fn hf hfn => by
    obtain rfl : f = 3 := Option.some.inj ((show Tryd.prog.funcNamed Rows.lexTellsRow.func = some 3 by kernel_rfl).symm.trans hf) |>.symm
    obtain rfl : fn = Tryd.f3 := (Option.some.inj (Tryd.func3.symm.trans hfn)).symm
    exact ⟨by kernel_rfl, fun j t ht => by
     have hm : t ∈ Tryd.f3.params.toList := by simpa using Array.mem_of_getElem? ht
     have hall : (Tryd.f3.params.toList.all fun u => !Tryd.prog.wantsStandIn u) = true := by kernel_rfl
     exact (show Tryd.prog.wantsStandIn t = false by simpa using List.all_eq_true.1 hall t hm)⟩)
  (by kernel_rfl)
end Go.Proofs.YthjnepfpohmpkaaDoor.lawLexTells
