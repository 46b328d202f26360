/- Rows of bytes that the call itself made: what they read as, stores, growth by append, the text of one. No condition. -/
import Derived.Test.YtpkjooiddejgpaaDoorNatK
import Derived.Test.YtpkjooiddejgpaaDoorRefT
import Derived.Test.YtpkjooiddejgpaaDoorStr
import Derived.Laws.IdiomStrings
namespace Go.Proofs.YtpkjooiddejgpaaDoor
open Go.RowKit Limb
set_option linter.unusedVariables false

theorem u8_info : (Tryd.prog.info? 5).map (fun i => (i.zero, i.size, i.bytes)) = some (some (.int .u8 0), 1, 1) := by kernel_rfl
theorem u8_size : (Tryd.prog.info? 5).map (·.size) = some 1 := by kernel_rfl

/-- A byte as a value. -/
def byV (x : Nat) : Value := .int .u8 (x : Int)

theorem oneCell_u8 (xs : List Nat) : ∀ v ∈ xs.map byV, v.oneCell' = true := by
  intro v hv
  obtain ⟨x, _, rfl⟩ := List.mem_map.1 hv
  rfl

theorem map_u8_get {xs : List Nat} {j : Nat} {v : Value} (h : (xs.map byV)[j]? = some v) : j < xs.length ∧ v = byV (lim xs j) := by
  rw [List.getElem?_map] at h
  by_cases hj : j < xs.length
  · rw [List.getElem?_eq_getElem hj] at h
    simp at h
    exact ⟨hj, by rw [← h]; simp [lim, List.getD_eq_getElem?_getD, List.getElem?_eq_getElem hj]⟩
  · rw [List.getElem?_eq_none (by omega)] at h; simp at h

/-- The slice of bytes at A reads as xs. -/
def IsB (w : World) (A : Option Addr) (n : Nat) (xs : List Nat) : Prop :=
  xs.length = n ∧ Bytes xs ∧ (0 < n → ∃ b o, A = some ⟨b, o, none⟩ ∧ b < w.heap.size ∧ ∀ j, j < n → w.cell? ⟨b, o + j, none⟩ = some (.int .u8 ((lim xs j : Nat) : Int)))

theorem IsB.below {w w' : World} {A : Option Addr} {n : Nat} {xs : List Nat} (h : IsB w A n xs) (hb : Below w.heap.size w w') : IsB w' A n xs := by
  refine ⟨h.1, h.2.1, fun hn => ?_⟩
  obtain ⟨b, o, e, hlt, hc⟩ := h.2.2 hn
  exact ⟨b, o, e, Nat.lt_of_lt_of_le hlt hb.size, fun j hj => (hb.cell (p := ⟨b, o + j, none⟩) hlt).trans (hc j hj)⟩

/-- A row of bytes that the call itself made. -/
def OwnB (w : World) (B : Nat) (A : Option Addr) (n c : Nat) (zs : List Nat) : Prop :=
  w.ownsRow B 5 1 (.slice A n c) n (zs.map byV) ∧ Bytes zs

section
variable {w w' : World} {B B' C : Nat} {A : Option Addr} {n c : Nat} {zs : List Nat}

theorem OwnB.len (h : OwnB w B A n c zs) : zs.length = n := by
  have := h.1.1; simpa using this
theorem OwnB.bytes (h : OwnB w B A n c zs) : Bytes zs := h.2
theorem OwnB.caps (h : OwnB w B A n c zs) : n ≤ c ∧ c ≤ maxLen := by
  rcases h.1.2 with ⟨hv, h0⟩ | ⟨g, cap, cur, hv, hg, hh, h1, h2, _⟩
  · injection hv with _ _ hc; subst hc; subst h0; exact ⟨Nat.le_refl _, Nat.zero_le _⟩
  · injection hv with _ _ hc; subst hc; exact ⟨h1, h2⟩
theorem OwnB.nil (w : World) (B : Nat) : OwnB w B none 0 0 [] := ⟨World.ownsRow_nil _ _ _ _, bytes_nil⟩
theorem OwnB.addr (h : OwnB w B A n c zs) (hn : 0 < n) : ∃ g, A = some ⟨g, 0, none⟩ ∧ B ≤ g ∧ g < w.heap.size := by
  rcases h.1.2 with ⟨_, h0⟩ | ⟨g, cap, cur, hv, hg, hh, _⟩
  · omega
  · injection hv with hA
    refine ⟨g, hA, hg, ?_⟩
    rcases Nat.lt_or_ge g w.heap.size with hlt | hge
    · exact hlt
    · rw [Array.getElem?_eq_none hge] at hh; cases hh
theorem OwnB.cell {g : Nat} (h : OwnB w B (some ⟨g, 0, none⟩) n c zs) {k : Nat} (hk : k < n) : w.cell? ⟨g, k, none⟩ = some (.int .u8 ((lim zs k : Nat) : Int)) := by
  have hl := h.len
  rw [h.1.cellAt k (by omega), List.getElem?_map, List.getElem?_eq_getElem (by omega)]
  simp [byV, lim, List.getD_eq_getElem?_getD, List.getElem?_eq_getElem (show k < zs.length by omega)]
theorem OwnB.set {g : Nat} (h : OwnB w B (some ⟨g, 0, none⟩) n c zs) (k : Nat) {v : Nat} (hv : v < 256) :
    OwnB (w.setCell ⟨g, k, none⟩ (.int .u8 ((v : Nat) : Int))) B (some ⟨g, 0, none⟩) n c (zs.set k v) := by
  have := (h.1.stored k (byV v)).1
  rw [← List.map_set] at this
  exact ⟨this, bytes_set h.2 k v hv⟩
theorem OwnB.below (h : OwnB w B A n c zs) (hb : Below C w w') (hC : w.heap.size ≤ C) : OwnB w' B A n c zs := by
  refine ⟨⟨h.1.1, ?_⟩, h.2⟩
  rcases h.1.2 with h2 | ⟨g, cap, cur, hv, hg, hh, r⟩
  · exact .inl h2
  · refine .inr ⟨g, cap, cur, hv, hg, ?_, r⟩
    have hlt : g < w.heap.size := by
      rcases Nat.lt_or_ge g w.heap.size with hlt | hge
      · exact hlt
      · rw [Array.getElem?_eq_none hge] at hh; cases hh
    rw [hb.block g (by omega)]
    exact hh
theorem OwnB.isB (h : OwnB w B A n c zs) : IsB w A n zs := by
  refine ⟨h.len, h.2, fun hn => ?_⟩
  obtain ⟨g, rfl, hg, hl⟩ := h.addr hn
  exact ⟨g, 0, rfl, hl, fun j hj => by rw [Nat.zero_add]; exact h.cell hj⟩
theorem OwnB.mono (h : OwnB w B A n c zs) (hB : B' ≤ B) : OwnB w B' A n c zs := by
  refine ⟨⟨h.1.1, ?_⟩, h.2⟩
  rcases h.1.2 with h2 | ⟨g, cap, cur, hv, hg, r⟩
  · exact .inl h2
  · exact .inr ⟨g, cap, cur, hv, Nat.le_trans hB hg, r⟩
theorem OwnB.row (h : OwnB w B A n c zs) : w.ownsRow B 5 1 (.slice A n c) n (zs.map byV) := h.1
theorem OwnB.alloc (h : OwnB w B A n c zs) (o : Obj) : OwnB (w.alloc o) B A n c zs := ⟨h.1.alloc o, h.2⟩
end

theorem shape_ownB {w : World} {B : Nat} {v : Value} {n : Nat} {zs : List Nat} (h : w.ownsRow B 5 1 v n (zs.map byV)) (hs : Bytes zs) : ∃ A c, v = .slice A n c ∧ OwnB w B A n c zs := by
  rcases h.2 with ⟨rfl, rfl⟩ | ⟨g, cap, cur, rfl, hg, r⟩
  · exact ⟨none, 0, rfl, h, hs⟩
  · exact ⟨_, cap, rfl, h, hs⟩

/-- What an append to a row of bytes of the call's own leaves of what was there before the call. -/
theorem below_grownB {w0 w w' : World} {A : Option Addr} {n c : Nat} {zs : List Nat} {o : Obj} (hb : Below w0.heap.size w0 w) (how : OwnB w w0.heap.size A n c zs) (hg : (w.alloc o).grownBy w' (Value.ownBlock (.slice A n c))) : Below w0.heap.size w0 w' :=
  (hb.alloc hb.size o).grown hg (by have := hb.size; simp; omega) (fun k hk => (how.1.lt k hk).1)

/-- append of one byte to a row of the call's own, nil too: the literal of one byte lies in a new block. -/
theorem wpList_append_byte {w : World} {ops : Array Oper} {rest : List Oper} {o : Oper} {a : Act} {Q : Exit → Act → World → Prop} (hgd : o.guard = none) (s x : Operand)
    (ho : o.op = .call { callee := .builtin .append, args := #[s, x], argTypes := #[36, 36] })
    (base : Nat) (v : Value) (n : Nat) (xs : List Nat) (hs : a.eval s = v) (hown : Hid (w.ownsRow base 5 1 v n (xs.map byV)))
    (g : Nat) (hx : a.eval x = .slice (some ⟨g, 0, none⟩) 1 1) (y : Nat) (hy : Hid (w.cell? ⟨g, 0, none⟩ = some (.int .u8 (y : Int)) ∧ y < 256)) (hb : Hid (n ≤ 1000000000 ∧ base ≤ w.heap.size ∧ Bytes xs))
    (h : ∀ A2 c2 w', Hid (OwnB w' base A2 (n + 1) c2 (xs ++ [y])) → Hid (w.grownBy w' v.ownBlock) → wpList Tryd.prog ops Q rest (a.put o.dst (.slice A2 (n + 1) c2)) w') : wpList Tryd.prog ops Q (o :: rest) a w := by
  obtain ⟨i0, hi, hz0, hz1, hz2⟩ := info_parts u8_info
  obtain ⟨h1, h3, h4⟩ := hb.out
  refine wpList_append_read hgd s x 36 ho base 5 i0 (.int .u8 0) 1 Tryd.underlying36 hi hz0 hz1 hz2 rfl v n (xs.map byV) hs hown.out (some ⟨g, 0, none⟩) 1 1 ([y].map byV) hx rfl ?_ (oneCell_u8 [y]) (by unfold maxLen; omega) (by omega) h3 ?_
  · intro _
    refine ⟨_, rfl, fun j u hu => ?_⟩
    obtain ⟨hj, rfl⟩ := map_u8_get hu
    obtain rfl : j = 0 := by simpa using hj
    have e : (⟨g, 0, none⟩ : Addr).add 0 = ⟨g, 0, none⟩ := by unfold Addr.add; split <;> simp_all
    rw [e]
    exact hy.out.1
  · intro v' w' hown' hg
    rw [← List.map_append] at hown'
    obtain ⟨A2, c2, rfl, how⟩ := shape_ownB hown' (bytes_append.2 ⟨h4, bytes_cons.2 ⟨hy.out.2, bytes_nil⟩⟩)
    exact h A2 c2 w' how hg

/-- The text of a row of bytes. -/
theorem run_text {w : World} {A : Option Addr} {n c : Nat} {xs : List Nat} (h : IsB w A n xs) (hn : 0 < n) : (convert 36 9 (.slice A n c)).run Tryd.prog w = .ok (.string (strOf xs)) w := by
  obtain ⟨b, o, rfl, _, hc⟩ := h.2.2 hn
  have hl : (xs.map UInt8.ofNat).length = n := by rw [List.length_map, h.1]
  have hr := run_convert_bytes_back (P := Tryd.prog) w 36 9 5 ⟨b, o, none⟩ c (xs.map UInt8.ofNat) Tryd.underlying36 Tryd.underlying5 Tryd.underlying9 (fun j hj => ?_)
  · rw [hl] at hr
    exact hr
  · have hj2 : j < xs.length := by simpa using hj
    have e : (⟨b, o, none⟩ : Addr).add j = ⟨b, o + j, none⟩ := by unfold Addr.add; split <;> simp_all
    rw [e, hc j (by rw [← h.1]; exact hj2), List.getElem_map, UInt8.toNat_ofNat']
    have e2 : lim xs j = xs[j] := by simp [lim, List.getD_eq_getElem?_getD, List.getElem?_eq_getElem hj2]
    have e3 := h.2.1 xs[j] (List.getElem_mem hj2)
    rw [e2, Nat.mod_eq_of_lt e3]

end Go.Proofs.YtpkjooiddejgpaaDoor
