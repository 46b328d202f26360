/- Part 4 of the texts that the statements of this seat lean on: mathematics, and what functions answer, as contracts over memory; each part says its own conditions. -/
import Derived.Test.YtannifhcjcbkcaaGreatDoorMB3
set_option linter.unusedVariables false
set_option maxHeartbeats 8000000
namespace Go.Proofs.YtannifhcjcbkcaaGreatDoor
open Go.RowKit Limb
open Lib (hid)
def TokK (t : Tk) : Prop := okTk t = true ∧ Bytes t.2.1 ∧ (t.1 = 4 → t.2.1.all yqg = true)
def ToksK (l : List Tk) : Prop := ∀ t ∈ l, TokK t
theorem ToksK.tail {t : Tk} {l : List Tk} (h : ToksK (t :: l)) : ToksK l := fun x hx => h x (List.mem_cons_of_mem _ hx)
theorem ToksK.head {t : Tk} {l : List Tk} (h : ToksK (t :: l)) : TokK t := h t (List.mem_cons_self)
theorem ToksK.behind {x l : List Tk} (h : ToksK (x ++ l)) : ToksK l := fun y hy => h y (List.mem_append_right _ hy)
def semi (t : Tk) : Bool := isT 3 [59] t
def Took (l q : List Tk) : Prop := ∃ x, x ≠ [] ∧ l = x ++ q ∧ ∀ z ∈ x, semi z = false
theorem Took.cons {t : Tk} (h : semi t = false) (l : List Tk) : Took (t :: l) l := ⟨[t], by simp, rfl, fun z hz => by rw [List.mem_singleton.1 hz]; exact h⟩
theorem Took.trans {a b c : List Tk} (h : Took a b) (k : Took b c) : Took a c := by
 obtain ⟨x, hx, rfl, h1⟩ := h;obtain ⟨y, hy, rfl, h2⟩ := k;exact ⟨x ++ y, by simp [hx], by rw [List.append_assoc], fun z hz => (List.mem_append.1 hz).elim (h1 z) (h2 z)⟩
theorem Took.more {t : Tk} (ht : semi t = false) {l q : List Tk} (h : Took l q) : Took (t :: l) q := (Took.cons ht l).trans h
theorem semi_kind {t : Tk} {k : Nat} (h : t.1 = k) (hk : k ≠ 3) : semi t = false := by
 unfold semi isT;rw [decide_eq_false (by rw [h]; exact hk)]; rfl
theorem xzk {kd : Nat} {tx : List Nat} {t : Tk} (h : isT kd tx t = true) : t.1 = kd ∧ (tx = [] ∨ t.2.1 = tx) := by
 unfold isT at h;simp only [Bool.and_eq_true, Bool.or_eq_true, decide_eq_true_eq, List.isEmpty_iff] at h;exact h
theorem xz3 {t : Tk} {c : Nat} (h : isT 3 [c] t = true) (hc : c ≠ 59) : semi t = false := by
 rcases (xzk h).2 with e | e
 · cases e
 · unfold semi isT;rw [e];simp [hc]
theorem semi_T {t : Tk} {k : Nat} {tx : List Nat} (h : isT k tx t = true) (hk : k ≠ 3) : semi t = false := semi_kind (xzk h).1 hk
theorem Took.mem {l q : List Tk} (h : Took l q) {z : Tk} (hz : z ∈ q) : z ∈ l := by
 obtain ⟨x, hx, rfl, _⟩ := h;exact List.mem_append_right _ hz
theorem Took.toks {l q : List Tk} (h : Took l q) (k : ToksK l) : ToksK q := fun z hz => k z (h.mem hz)
def FaultK (en : Nat) (l : List Tk) (e p : Nat) : Prop := (e = 2 ∨ e = 12) ∧ (p = en ∨ ∃ z ∈ l, p = z.2.2)
theorem FaultK.up {en e p : Nat} {l q : List Tk} (h : FaultK en q e p) (hs : ∀ z ∈ q, z ∈ l) : FaultK en l e p := by
 obtain ⟨h1, h2⟩ := h;refine ⟨h1, ?_⟩;rcases h2 with h2 | ⟨z, hz, h2⟩
 · exact .inl h2
 · exact .inr ⟨z, hs z hz, h2⟩
theorem FaultK.here {en : Nat} {l : List Tk} {e : Nat} (h : e = 2 ∨ e = 12) : FaultK en l e (xws en l) := by
 refine ⟨h, ?_⟩;cases l with
 | nil => exact .inl rfl
 | cons t r => exact .inr ⟨t, List.mem_cons_self, rfl⟩
structure TreeK (L : Lim) (l : List Tk) (n0 : Nat) (t : List Nd) (n : Nat) : Prop where
 good : xq5 t = true
 cnt : n = n0 + t.length
 lim : n ≤ L.nodes
 at' : ∀ y ∈ t, ∃ z ∈ l, y.p = (z.2.2 : Int)
 pow : ∀ y ∈ t, y.k = 8 → -(L.power : Int) ≤ y.n ∧ y.n ≤ (L.power : Int)
def PostF (L : Lim) (en : Nat) (l : List Tk) (n : Nat) : PaR (List Nd) → Prop
 | .ok t q m => Took l q ∧ TreeK L l n t m
 | .bad e p => FaultK en l e p
def Lim.Fit (L : Lim) : Prop := L.nodes ≤ 2000 ∧ L.power ≤ 64 ∧ L.deep ≤ 60 ∧ L.text ≤ 4000
def Fine (L : Lim) (en : Nat) (f : Rdr) : Prop := ∀ l n, ToksK l → PostF L en l n (f l n)
theorem TreeK.mono {L : Lim} {l q : List Tk} {n0 n : Nat} {t : List Nd} (h : TreeK L q n0 t n) (hs : ∀ z ∈ q, z ∈ l) : TreeK L l n0 t n := by
 obtain ⟨h1, h2, h3, h4, h5⟩ := h;exact ⟨h1, h2, h3, fun y hy => by obtain ⟨z, hz, e⟩ := h4 y hy; exact ⟨z, hs z hz, e⟩, h5⟩
theorem TreeK.over {L : Lim} {l : List Tk} {n0 n : Nat} {t : List Nd} (h : TreeK L l n0 t n) (hL : L.Fit) (hn : n + 1 ≤ L.nodes) {k j : Int} (hk : oneK k = true) (hj : xjw ⟨k, (t.length : Int) - 1, 0, j, ⟨#[]⟩, ⟨#[]⟩, 0⟩ = true) (hp : k = 8 → -(L.power : Int) ≤ j ∧ j ≤ (L.power : Int))
 {p : Nat} (hz : ∃ z ∈ l, p = z.2.2) : TreeK L l n0 (xva k j t p) (n + 1) := by
 obtain ⟨h1, h2, h3, h4, h5⟩ := h;have hlen := (xz4 h1).1;refine ⟨(good_over (x := ⟨k, (t.length : Int) - 1, 0, j, ⟨#[]⟩, ⟨#[]⟩, p⟩) h1 (by have := hL.1; omega) hj hk (by show _ - _ = _; omega)).1, by unfold xva; rw [List.length_append]; simp; omega, hn, fun y hy => ?_, fun y hy => ?_⟩
 · unfold xva at hy;rcases List.mem_append.1 hy with h | h
   · exact h4 y h
   · rw [List.mem_singleton.1 h];obtain ⟨z, hz, e⟩ := hz;exact ⟨z, hz, by rw [e]⟩
 · unfold xva at hy;rcases List.mem_append.1 hy with h | h
   · exact h5 y h
   · rw [List.mem_singleton.1 h]; exact hp
theorem shiftN_p (d : Nat) (x : Nd) : (xqj d x).p = x.p := by
 unfold xqj
 split
 · rfl
 · split <;> rfl
theorem shiftN_n (d : Nat) (x : Nd) : (xqj d x).n = x.n := by
 unfold xqj
 split
 · rfl
 · split <;> rfl
theorem TreeK.join {L : Lim} {l : List Tk} {n0 n m : Nat} {t u : List Nd} (h : TreeK L l n0 t n) (h' : TreeK L l n u m) (hL : L.Fit) (hn : m + 1 ≤ L.nodes) {k : Int} (hk : xq8 k = true) {p : Nat} (hz : ∃ z ∈ l, p = z.2.2) : TreeK L l n0 (xwf k t u p) (m + 1) := by
 obtain ⟨h1, h2, h3, h4, h5⟩ := h;obtain ⟨g1, g2, g3, g4, g5⟩ := h';have hlen := (xz4 h1).1;have hlen' := (xz4 g1).1;have hf : xjw ⟨k, (t.length : Int) - 1, (t.length : Int) + (u.length : Int) - 1, 0, ⟨#[]⟩, ⟨#[]⟩, p⟩ = true := by
  have h36 := twoK_iff.1 hk;unfold xjw;rw [if_neg (by show ¬ k = 1; omega), if_neg (by show ¬ k = 2; omega), if_pos hk]; rfl
 refine ⟨(good_two (x := ⟨k, (t.length : Int) - 1, (t.length : Int) + (u.length : Int) - 1, 0, ⟨#[]⟩, ⟨#[]⟩, p⟩) h1 g1 (by have := hL.1; omega) hf hk (by show _ - _ = _; omega) (by show _ - _ = _; omega)).1, by unfold xwf; simp; omega, hn, fun y hy => ?_, fun y hy => ?_⟩
 · unfold xwf at hy;rcases List.mem_append.1 hy with h | h
   · rcases List.mem_append.1 h with h | h
     · exact h4 y h
     · obtain ⟨x, hx, rfl⟩ := List.mem_map.1 h;rw [shiftN_p];exact g4 x hx
   · rw [List.mem_singleton.1 h];obtain ⟨z, hz, e⟩ := hz;exact ⟨z, hz, by rw [e]⟩
 · unfold xwf at hy;rcases List.mem_append.1 hy with h | h
   · rcases List.mem_append.1 h with h | h
     · exact h5 y h
     · obtain ⟨x, hx, rfl⟩ := List.mem_map.1 h;rw [shiftN_k, shiftN_n];exact g5 x hx
   · rw [List.mem_singleton.1 h];intro e;exact absurd (twoK_iff.1 hk) (by show ¬ (_ ∧ k ≤ 6); have : k = 8 := e; omega)
theorem xvu {kd : Nat} {tx : List Nat} {l : List Tk} (h : xqp kd tx l = true) : ∃ t r, l = t :: r ∧ isT kd tx t = true := by
 cases l with
 | nil => cases h
 | cons t r => exact ⟨t, r, rfl, h⟩
def PostT (en : Nat) (l : List Tk) (n : Nat) (c : Tk → Prop) : PaR Tk → Prop
 | .ok t q m => l = t :: q ∧ c t ∧ m = n
 | .bad e p => FaultK en l e p
theorem FaultK.nil {en e : Nat} (h : e = 2 ∨ e = 12) : FaultK en [] e en := ⟨h, .inl rfl⟩
theorem FaultK.hd {en e : Nat} {t : Tk} {r : List Tk} (h : e = 2 ∨ e = 12) : FaultK en (t :: r) e t.2.2 := ⟨h, .inr ⟨t, List.mem_cons_self, rfl⟩⟩
theorem xwh (en kd : Nat) (tx : List Nat) (t : Tk) (r : List Tk) (n : Nat) : xjr en kd tx (t :: r) n = if isT kd tx t = true then .ok t r n else .bad 12 t.2.2 := rfl
theorem xvj (en : Nat) (t : Tk) (r : List Tk) (n : Nat) : yz9 en (t :: r) n = if t.1 = 1 ∧ xjn t.2.1 = true then .ok t r n else .bad 12 t.2.2 := rfl
theorem xjz (en kd : Nat) (tx : List Nat) (l : List Tk) (n : Nat) : PostT en l n (fun t => isT kd tx t = true) (xjr en kd tx l n) := by
 cases l with
 | nil => exact FaultK.nil (.inr rfl)
 | cons t r =>
  rw [xwh];by_cases h : isT kd tx t = true
  · rw [if_pos h]; exact ⟨rfl, h, rfl⟩
  · rw [if_neg h]; exact FaultK.hd (.inr rfl)
theorem nameT_post (en : Nat) (l : List Tk) (n : Nat) : PostT en l n (fun t => t.1 = 1 ∧ xjn t.2.1 = true) (yz9 en l n) := by
 cases l with
 | nil => exact FaultK.nil (.inr rfl)
 | cons t r =>
  rw [xvj];by_cases h : t.1 = 1 ∧ xjn t.2.1 = true
  · rw [if_pos h]; exact ⟨rfl, h, rfl⟩
  · rw [if_neg h]; exact FaultK.hd (.inr rfl)
theorem yqe {L : Lim} {en : Nat} {l q : List Tk} {n0 n p : Nat} {t : List Nd} (ht : Took l q) (hz : ∃ z ∈ l, p = z.2.2) (h : n + 1 ≤ L.nodes → TreeK L l n0 t (n + 1)) : PostF L en l n0 (xvb L t p q n) := by
 unfold xvb;by_cases hn : L.nodes < n + 1
 · rw [if_pos hn]; exact ⟨.inl rfl, .inr hz⟩
 · rw [if_neg hn]; exact ⟨ht, h (by omega)⟩
theorem fits_pow {a j p : Int} (h1 : -64 ≤ j) (h2 : j ≤ 64) : xjw ⟨8, a, 0, j, ⟨#[]⟩, ⟨#[]⟩, p⟩ = true := by
 unfold xjw;simp [xq8, h1, h2, ByteArray.size]
theorem fits_neg {a p : Int} : xjw ⟨7, a, 0, 0, ⟨#[]⟩, ⟨#[]⟩, p⟩ = true := by
 unfold xjw;simp [xq8, ByteArray.size]
theorem powB_post {L : Lim} (hL : L.Fit) {en : Nat} {l q : List Tk} {n0 n pa : Nat} {t : List Nd} (hq : Took l q) (hz : ∃ z ∈ l, pa = z.2.2) (ht : TreeK L l n0 t n) (sg : Bool) : PostF L en l n0 (powB L en t pa sg q n) := by
 unfold powB;have h := xjz en 2 [] q n;cases hr : xjr en 2 [] q n with
 | bad e p => rw [hr] at h; exact FaultK.up h fun z hz => hq.mem hz
 | ok x r m =>
  rw [hr] at h;obtain ⟨rfl, hx, rfl⟩ := h;rw [PaR.next_ok];have hx' : x ∈ l := hq.mem List.mem_cons_self;cases hs : xvk x.2.1 3 with
  | none => exact ⟨.inr rfl, .inr ⟨x, hx', rfl⟩⟩
  | some k =>
   dsimp only;by_cases hk : L.power < k
   · rw [if_pos hk]; exact ⟨.inl rfl, .inr ⟨x, hx', rfl⟩⟩
   · rw [if_neg hk];have h64 := hL.2.1;have hb : -(L.power : Int) ≤ (if sg = true then -(k : Int) else (k : Int)) ∧ (if sg = true then -(k : Int) else (k : Int)) ≤ (L.power : Int) := by cases sg <;> simp <;> omega
     refine yqe (hq.trans (Took.cons (semi_T hx (by decide)) _)) hz fun hn => ht.over hL hn (by decide) ?_ (fun _ => hb) hz
     exact fits_pow (by omega) (by omega)
theorem powT_post {L : Lim} (hL : L.Fit) {en : Nat} {l q : List Tk} {n0 n : Nat} {t : List Nd} (hq : Took l q) (ht : TreeK L l n0 t n) : PostF L en l n0 (yw1 L en t q n) := by
 unfold yw1;by_cases h1 : xqp 3 [94] q = true
 · rw [if_pos h1];obtain ⟨x, r, rfl, hx⟩ := xvu h1;have hz : ∃ z ∈ l, xws en (x :: r) = z.2.2 := ⟨x, hq.mem List.mem_cons_self, rfl⟩;by_cases h2 : xqp 3 [45] (x :: r).tail = true
   · rw [if_pos h2];obtain ⟨y, q, he, hy⟩ := xvu h2;have he2 : r = y :: q := he;subst he2;exact powB_post hL ((hq.trans (Took.cons (xz3 hx (by decide)) _)).trans (Took.cons (xz3 hy (by decide)) _)) hz ht true
   · rw [if_neg h2];exact powB_post hL (hq.trans (Took.cons (xz3 hx (by decide)) _)) hz ht false
 · rw [if_neg h1]; exact ⟨hq, ht⟩
theorem TokK.lit {t : Tk} (h : TokK t) (hk : t.1 = 2) : xq0 t.2.1 = true := by
 have h1 := h.1;unfold okTk at h1;rw [if_neg (by rw [hk]; decide), if_pos hk] at h1; exact h1
theorem TokK.unit {t : Tk} (h : TokK t) (hk : t.1 = 4) : 1 ≤ t.2.1.length ∧ t.2.1.length ≤ 200 := by
 have h1 := h.1;unfold okTk at h1;rw [if_neg (by rw [hk]; decide), if_neg (by rw [hk]; decide), if_neg (by rw [hk]; decide), if_pos hk] at h1
 simpa using h1
theorem unitOk_of {u : List Nat} (hb : Bytes u) (hl : u.length ≤ 200) (ha : u.all yqg = true) : xjt (strOf u) = true := by
 unfold xjt;rw [xqh, xqk hb, decide_eq_true hl, Bool.true_and];rw [List.all_eq_true] at ha ⊢;intro c hc;have := ha c hc;unfold yqg at this;simp only [Bool.and_eq_true, decide_eq_true_eq] at this;simp [this.1, this.2]
theorem TokK.units {t : Tk} (h : TokK t) (hk : t.1 = 4) : xjt (strOf t.2.1) = true := unitOk_of h.2.1 (h.unit hk).2 (h.2.2 hk)
theorem leaf_good {x : Nd} (hk : x.k = 1 ∨ x.k = 2) (hf : xjw x = true) : xq5 [x] = true := by
 have hs : xz6 [] x = some ([] : List Nat).length := yjl hf hk;have hb : yzt [x] = some [0] := yql hs [];rw [yve hb (by simp) (by simp)]; rfl
theorem TreeK.leaf {L : Lim} {l : List Tk} {n p : Nat} {x : Nd} (hk : x.k = 1 ∨ x.k = 2) (hf : xjw x = true) (hn : n + 1 ≤ L.nodes) (hp : x.p = (p : Int)) (hz : ∃ z ∈ l, p = z.2.2) : TreeK L l n [x] (n + 1) :=
 ⟨leaf_good hk hf, rfl, hn, fun y hy => by rw [List.mem_singleton.1 hy]; obtain ⟨z, hz, e⟩ := hz; exact ⟨z, hz, by rw [hp, e]⟩, fun y hy h8 => by rw [List.mem_singleton.1 hy] at h8; rcases hk with h | h <;> omega⟩
theorem fits_lit {s u : ByteArray} {p : Int} (hs : xq0 (bytesOf s) = true) (hu : xjt u = true) : xjw ⟨1, 0, 0, 0, s, u, p⟩ = true := by
 unfold xjw;rw [if_pos rfl];simp [hs, hu]
theorem fits_ref {s : ByteArray} {p : Int} (hs : xjn (bytesOf s) = true) : xjw ⟨2, 0, 0, 0, s, ⟨#[]⟩, p⟩ = true := by
 unfold xjw;rw [if_neg (by show ¬ (2 : Int) = 1; decide), if_pos rfl];simp [hs, ByteArray.size]
theorem atomT_post {L : Lim} {en : Nat} {l : List Tk} (n : Nat) (hl : ToksK l) : PostF L en l n (yqm L en l n) := by
 unfold yqm;cases l with
 | nil => exact FaultK.nil (.inr rfl)
 | cons x r =>
  dsimp only;have hx := hl.head;have hz : ∃ z ∈ x :: r, x.2.2 = z.2.2 := ⟨x, List.mem_cons_self, rfl⟩;by_cases h : isT 2 [] x = true
  · rw [if_pos h];have hk := (xzk h).1;have hg : xq0 (bytesOf (strOf x.2.1)) = true := by rw [xqk hx.2.1]; exact hx.lit hk
    have hno : PostF L en (x :: r) n (xvb L (litN x.2.1 [] x.2.2) x.2.2 r n) := yqe (Took.cons (semi_T h (by decide)) _) hz fun hn => TreeK.leaf (.inl rfl) (fits_lit hg (by decide)) hn rfl hz
    cases r with
    | nil => exact hno
    | cons y q =>
     dsimp only;by_cases h4 : isT 4 [] y = true
     · rw [if_pos h4];exact yqe ((Took.cons (semi_T h (by decide)) _).trans (Took.cons (semi_T h4 (by decide)) _)) hz fun hn => TreeK.leaf (.inl rfl) (fits_lit hg (hl.tail.head.units (xzk h4).1)) hn rfl hz
     · rw [if_neg h4]; exact hno
  · rw [if_neg h];by_cases h1 : x.1 = 1 ∧ xjn x.2.1 = true
    · rw [if_pos h1];exact yqe (Took.cons (semi_kind h1.1 (by decide)) _) hz fun hn => TreeK.leaf (.inr rfl) (fits_ref (by rw [xqk hx.2.1]; exact h1.2)) hn rfl hz
    · rw [if_neg h1]; exact FaultK.hd (.inr rfl)
theorem loopT_post {L : Lim} (hL : L.Fit) {en : Nat} {f : Rdr} (hf : Fine L en f) {op : Tk → Option Int} (ho : ∀ x k, op x = some k → xq8 k = true ∧ semi x = false) {l : List Tk} (hl : ToksK l) {n0 : Nat} : ∀ (g : Nat) (t : List Nd) (q : List Tk) (n : Nat), Took l q → TreeK L l n0 t n → PostF L en l n0 (xv4 L f op g t q n) := by
 intro g;induction g with
 | zero => intro t q n h1 h2; exact ⟨h1, h2⟩
 | succ g ih =>
  intro t q n h1 h2;cases q with
  | nil => exact ⟨h1, h2⟩
  | cons x r =>
   unfold xv4;cases hop : op x with
   | none => exact ⟨h1, h2⟩
   | some k =>
    dsimp only;have hr : Took l r := h1.trans (Took.cons (ho x k hop).2 _);have h := hf r n (hr.toks hl);cases hfr : f r n with
    | bad e p => rw [hfr] at h; exact FaultK.up h fun z hz => hr.mem hz
    | ok u r2 n2 =>
     rw [hfr] at h;obtain ⟨k1, k2⟩ := h;rw [PaR.next_ok];have hz : ∃ z ∈ l, x.2.2 = z.2.2 := ⟨x, h1.mem List.mem_cons_self, rfl⟩;unfold xvb;by_cases hn : L.nodes < n2 + 1
     · rw [if_pos hn]; exact ⟨.inl rfl, .inr hz⟩
     · rw [if_neg hn, PaR.next_ok];exact ih _ _ _ (hr.trans k1) (h2.join (k2.mono fun z hz => hr.mem hz) hL (by omega) (ho x k hop).1 hz)
theorem zqp {L : Lim} (hL : L.Fit) {en : Nat} {f : Rdr} (hf : Fine L en f) {op : Tk → Option Int} (ho : ∀ x k, op x = some k → xq8 k = true ∧ semi x = false) : Fine L en (rowT L f op) := by
 intro l n hl;unfold rowT;have h := hf l n hl;cases hfr : f l n with
 | bad e p => rw [hfr] at h; exact h
 | ok t r m => rw [hfr] at h; exact loopT_post hL hf ho hl _ _ _ _ h.1 h.2
theorem mulO_two (x : Tk) (k : Int) (h : mulO x = some k) : xq8 k = true ∧ semi x = false := by
 unfold mulO at h
 split at h
 · rename_i h9
   injection h with h; subst h; exact ⟨by decide, xz3 h9 (by decide)⟩
 · split at h
   · rename_i h9
     injection h with h; subst h; exact ⟨by decide, xz3 h9 (by decide)⟩
   · cases h
theorem addO_two (x : Tk) (k : Int) (h : addO x = some k) : xq8 k = true ∧ semi x = false := by
 unfold addO at h
 split at h
 · rename_i h9
   injection h with h; subst h; exact ⟨by decide, xz3 h9 (by decide)⟩
 · split at h
   · rename_i h9
     injection h with h; subst h; exact ⟨by decide, xz3 h9 (by decide)⟩
   · cases h
theorem yv9 {L : Lim} (hL : L.Fit) {en : Nat} {f : Rdr} (hf : Fine L en f) : Fine L en (yjw L f) := zqp hL (zqp hL hf mulO_two) addO_two
theorem facS_fine {L : Lim} (hL : L.Fit) {en : Nat} {sub : Option Rdr} (hs : ∀ f, sub = some f → Fine L en f) : Fine L en (zq9 L en sub) := by
 intro l n hl;unfold zq9;by_cases h1 : xqp 3 [45] l = true
 · rw [if_pos h1];obtain ⟨x, r, rfl, hx⟩ := xvu h1;cases sub with
   | none => exact FaultK.here (.inl rfl)
   | some f =>
    dsimp only;have h := hs f rfl r n hl.tail;show PostF L en (x :: r) n ((f r n).next _);cases hfr : f r n with
    | bad e p => rw [hfr] at h; exact FaultK.up h fun z hz => List.mem_cons_of_mem _ hz
    | ok a q m =>
     rw [hfr] at h;rw [PaR.next_ok];have hz : ∃ z ∈ x :: r, xws en (x :: r) = z.2.2 := ⟨x, List.mem_cons_self, rfl⟩;exact yqe (h.1.more (xz3 hx (by decide))) hz fun hn => (h.2.mono fun z hz => List.mem_cons_of_mem _ hz).over hL hn (by decide) fits_neg (fun h => absurd h (by decide)) hz
 · rw [if_neg h1];by_cases h2 : xqp 3 [40] l = true
   · rw [if_pos h2];obtain ⟨x, r, rfl, hx⟩ := xvu h2;cases sub with
     | none => exact FaultK.here (.inl rfl)
     | some f =>
      dsimp only;have h := yv9 hL (hs f rfl) r n hl.tail;show PostF L en (x :: r) n ((yjw L f r n).next _);cases hfr : yjw L f r n with
      | bad e p => rw [hfr] at h; exact FaultK.up h fun z hz => List.mem_cons_of_mem _ hz
      | ok a q m =>
       rw [hfr] at h;rw [PaR.next_ok];have hk := xjz en 3 [41] q m;cases ht : xjr en 3 [41] q m with
       | bad e p => rw [ht] at hk; exact FaultK.up hk fun z hz => List.mem_cons_of_mem _ (h.1.mem hz)
       | ok y s m2 =>
        rw [ht] at hk;obtain ⟨rfl, hy, rfl⟩ := hk;rw [PaR.next_ok];exact powT_post hL ((h.1.more (xz3 hx (by decide))).trans (Took.cons (xz3 hy (by decide)) _)) (h.2.mono fun z hz => List.mem_cons_of_mem _ hz)
   · rw [if_neg h2];have h := atomT_post (L := L) (en := en) n hl;cases ha : yqm L en l n with
     | bad e p => rw [ha] at h; exact h
     | ok a q m => rw [ha] at h; exact powT_post hL h.1 h.2
theorem yvj {L : Lim} (hL : L.Fit) (en : Nat) : ∀ d, Fine L en (yjs L en d)
 | 0 => facS_fine hL fun f h => by cases h
 | d + 1 => facS_fine hL fun f h => by injection h with h; subst h; exact yvj hL en d
theorem formL_fine {L : Lim} (hL : L.Fit) (en : Nat) : Fine L en (yjx L en) := yv9 hL (yvj hL en L.deep)
section
inductive All2 {α β : Type} (R : α → β → Prop) : List α → List β → Prop where
  | nil : All2 R [] []
  | cons {a : α} {b : β} {l : List α} {m : List β} : R a b → All2 R l m → All2 R (a :: l) (b :: m)
theorem All2.len {α β : Type} {R : α → β → Prop} {l : List α} {m : List β} (h : All2 R l m) : l.length = m.length := by
 induction h with
 | nil => rfl
 | cons _ _ ih => rw [List.length_cons, List.length_cons, ih]
theorem All2.app {α β : Type} {R : α → β → Prop} {l l2 : List α} {m m2 : List β} (h : All2 R l m) (k : All2 R l2 m2) : All2 R (l ++ l2) (m ++ m2) := by
 induction h with
 | nil => exact k
 | cons h1 _ ih => exact .cons h1 ih
theorem All2.map {α β : Type} {R : α → β → Prop} {f : α → α} {g : β → β} (hf : ∀ a b, R a b → R (f a) (g b)) {l : List α} {m : List β} (h : All2 R l m) : All2 R (l.map f) (m.map g) := by
 induction h with
 | nil => exact .nil
 | cons h1 _ ih => exact .cons (hf _ _ h1) ih
theorem All2.refl {α : Type} {R : α → α → Prop} (hr : ∀ a, R a a) (l : List α) : All2 R l l := by
 induction l with
 | nil => exact .nil
 | cons a l ih => exact .cons (hr a) ih
theorem All2.eq {α : Type} {R : α → α → Prop} (hr : ∀ a b, R a b → a = b) {l m : List α} (h : All2 R l m) : l = m := by
 induction h with
 | nil => rfl
 | cons h1 _ ih => rw [hr _ _ h1, ih]
theorem All2.one {α β : Type} {R : α → β → Prop} {a : α} {b : β} (h : R a b) : All2 R [a] [b] := .cons h .nil
def TkR (P : Nat → Nat → Prop) (a b : Tk) : Prop := a.1 = b.1 ∧ a.2.1 = b.2.1 ∧ P a.2.2 b.2.2
def NdQ (P : Nat → Nat → Prop) (x y : Nd) : Prop := xjs x = xjs y ∧ ∃ a b : Nat, x.p = (a : Int) ∧ y.p = (b : Int) ∧ P a b
def TrQ (P : Nat → Nat → Prop) : List Nd → List Nd → Prop := All2 (NdQ P)
def PaQ {α : Type} (P : Nat → Nat → Prop) (R : α → α → Prop) (d : Nat) (r r' : PaR α) : Prop :=
 (∃ p, r = .bad 2 p) ∨ (∃ a q m a' q', r = .ok a q (m + d) ∧ r' = .ok a' q' m ∧ R a a' ∧ All2 (TkR P) q q') ∨ ∃ e p p', r = .bad e p ∧ r' = .bad e p'
theorem PaQ.next {α β : Type} {P : Nat → Nat → Prop} {R : α → α → Prop} {S : β → β → Prop} {d : Nat} {r r' : PaR α} {f f' : α → List Tk → Nat → PaR β} (h : PaQ P R d r r') (k : ∀ a a' q q' m, R a a' → All2 (TkR P) q q' → PaQ P S d (f a q (m + d)) (f' a' q' m)) : PaQ P S d (r.next f) (r'.next f') := by
 rcases h with ⟨p, rfl⟩ | ⟨a, q, m, a', q', rfl, rfl, h1, h2⟩ | ⟨e, p, p', rfl, rfl⟩
 · exact .inl ⟨p, rfl⟩
 · exact k a a' q q' m h1 h2
 · exact .inr (.inr ⟨e, p, p', rfl, rfl⟩)
theorem PaQ.ok {α : Type} {P : Nat → Nat → Prop} {R : α → α → Prop} {d : Nat} {a a' : α} {q q' : List Tk} {m : Nat} (h : R a a') (k : All2 (TkR P) q q') : PaQ P R d (.ok a q (m + d)) (.ok a' q' m) := .inr (.inl ⟨a, q, m, a', q', rfl, rfl, h, k⟩)
theorem PaQ.bad {α : Type} {P : Nat → Nat → Prop} {R : α → α → Prop} {d : Nat} (e p p' : Nat) : PaQ P R d (.bad e p : PaR α) (.bad e p') := .inr (.inr ⟨e, p, p', rfl, rfl⟩)
theorem PaQ.lim {α : Type} {P : Nat → Nat → Prop} {R : α → α → Prop} {d : Nat} (p : Nat) (r' : PaR α) : PaQ P R d (.bad 2 p) r' := .inl ⟨p, rfl⟩
variable {P : Nat → Nat → Prop}
theorem TkR.isT {a b : Tk} (h : TkR P a b) (kd : Nat) (tx : List Nat) : isT kd tx a = isT kd tx b := by unfold Proofs.YtannifhcjcbkcaaGreatDoor.isT; rw [h.1, h.2.1]
theorem xw7 {l m : List Tk} (h : All2 (TkR P) l m) (kd : Nat) (tx : List Nat) : xqp kd tx l = xqp kd tx m := by
 cases h with
 | nil => rfl
 | cons h1 _ => exact h1.isT kd tx
theorem yz0 {l m : List Tk} (h : All2 (TkR P) l m) : All2 (TkR P) l.tail m.tail := by
 cases h with
 | nil => exact .nil
 | cons _ h => exact h
theorem xv9 (en en' kd : Nat) (tx : List Nat) (d : Nat) {l m : List Tk} (n : Nat) (h : All2 (TkR P) l m) : PaQ P (TkR P) d (xjr en kd tx l (n + d)) (xjr en' kd tx m n) := by
 cases h with
 | nil => exact .bad _ _ _
 | cons h1 h2 =>
  rw [xwh, xwh, h1.isT]
  split
  · exact .ok h1 h2
  · exact .bad _ _ _
theorem nameT_q (en en' : Nat) (d : Nat) {l m : List Tk} (n : Nat) (h : All2 (TkR P) l m) : PaQ P (TkR P) d (yz9 en l (n + d)) (yz9 en' m n) := by
 cases h with
 | nil => exact .bad _ _ _
 | cons h1 h2 =>
  rw [xvj, xvj, h1.1, h1.2.1]
  split
  · exact .ok h1 h2
  · exact .bad _ _ _
theorem numB_q (en en' : Nat) (s : List Nat) (d : Nat) {l m : List Tk} (n : Nat) (h : All2 (TkR P) l m) : PaQ P Eq d (numB en s l (n + d)) (numB en' s m n) := by
 unfold numB;refine (xv9 en en' 2 [] d n h).next fun a a' q q' k h1 h2 => ?_
 rw [xw7 h2]
 split
 · exact (xv9 en en' 2 [] d k (yz0 h2)).next fun b b' q q' k h3 h4 => .ok (by rw [h1.2.1, h3.2.1]) h4
 · exact .ok (by rw [h1.2.1]) h2
theorem numT_q (en en' : Nat) (d : Nat) {l m : List Tk} (n : Nat) (h : All2 (TkR P) l m) : PaQ P Eq d (numT en l (n + d)) (numT en' m n) := by
 unfold numT;rw [xw7 h]
 split
 · exact numB_q en en' _ d n (yz0 h)
 · exact numB_q en en' _ d n h
def Lim.le (L L' : Lim) : Prop := L.nodes ≤ L'.nodes ∧ L.power ≤ L'.power ∧ L.deep ≤ L'.deep
theorem yzn {L L' : Lim} (hL : L.le L') (d : Nat) {t t' : List Nd} (ht : TrQ P t t') (p p' : Nat) {l m : List Tk} (h : All2 (TkR P) l m) (n : Nat) : PaQ P (TrQ P) d (xvb L t p l (n + d)) (xvb L' t' p' m n) := by
 unfold xvb;by_cases h1 : L.nodes < n + d + 1
 · rw [if_pos h1]; exact .lim _ _
 · have := hL.1;rw [if_neg h1, if_neg (by omega), show n + d + 1 = n + 1 + d by omega];exact .ok ht h
theorem TrQ.len {t t' : List Nd} (h : TrQ P t t') : t.length = t'.length := All2.len h
theorem NdQ.mk' (k a b n : Int) (t u : ByteArray) {p p' : Nat} (h : P p p') : NdQ P ⟨k, a, b, n, t, u, p⟩ ⟨k, a, b, n, t, u, p'⟩ := ⟨rfl, p, p', rfl, rfl, h⟩
theorem overN_q {t t' : List Nd} (h : TrQ P t t') (k j : Int) {p p' : Nat} (hp : P p p') : TrQ P (xva k j t p) (xva k j t' p') := by
 unfold xva;rw [h.len];exact All2.app h (.one (NdQ.mk' _ _ _ _ _ _ hp))
theorem shiftN_q {x y : Nd} (s : Nat) (h : NdQ P x y) : NdQ P (xqj s x) (xqj s y) := by
 obtain ⟨k, a, b, n, t, u, p⟩ := x;obtain ⟨k', a', b', n', t', u', p'⟩ := y;obtain ⟨h1, c, c', h2, h3, h4⟩ := h;unfold xjs at h1;simp only [Nd.mk.injEq] at h1;obtain ⟨rfl, rfl, rfl, rfl, rfl, rfl, _⟩ := h1;refine ⟨?_, c, c', by rw [shiftN_p]; exact h2, by rw [shiftN_p]; exact h3, h4⟩;unfold xqj xjs;dsimp only
 split
 · rfl
 · split <;> rfl
theorem joinN_q {t t' u u' : List Nd} (h : TrQ P t t') (h' : TrQ P u u') (k : Int) {p p' : Nat} (hp : P p p') : TrQ P (xwf k t u p) (xwf k t' u' p') := by
 unfold xwf;rw [h.len, h'.len];exact All2.app (All2.app h (All2.map (fun a b hab => shiftN_q _ hab) h')) (.one (NdQ.mk' _ _ _ _ _ _ hp))
def RdQ (P : Nat → Nat → Prop) (d : Nat) (f f' : Rdr) : Prop := ∀ l m n, All2 (TkR P) l m → PaQ P (TrQ P) d (f l (n + d)) (f' m n)
theorem powB_q {L L' : Lim} (hL : L.le L') (en en' d : Nat) {t t' : List Nd} (ht : TrQ P t t') {pa pa' : Nat} (hp : P pa pa') (sg : Bool) {l m : List Tk} (h : All2 (TkR P) l m) (n : Nat) : PaQ P (TrQ P) d (powB L en t pa sg l (n + d)) (powB L' en' t' pa' sg m n) := by
 unfold powB;refine (xv9 en en' 2 [] d n h).next fun x x' q q' k h1 h2 => ?_
 rw [h1.2.1];cases xvk x'.2.1 3 with
 | none => exact .bad _ _ _
 | some j =>
  dsimp only;by_cases hj : L.power < j
  · rw [if_pos hj]; exact .lim _ _
  · have := hL.2.1;rw [if_neg hj, if_neg (show ¬ L'.power < j by omega)];exact yzn hL d (overN_q ht _ _ hp) _ _ h2 k
theorem here_q {l m : List Tk} (h : All2 (TkR P) l m) (en en' : Nat) (hn : l ≠ []) : P (xws en l) (xws en' m) := by
 cases h with
 | nil => exact absurd rfl hn
 | cons h1 _ => exact h1.2.2
theorem nextT_ne {kd : Nat} {tx : List Nat} {l : List Tk} (h : xqp kd tx l = true) : l ≠ [] := by rintro rfl; cases h
theorem powT_q {L L' : Lim} (hL : L.le L') (en en' d : Nat) {t t' : List Nd} (ht : TrQ P t t') {l m : List Tk} (h : All2 (TkR P) l m) (n : Nat) : PaQ P (TrQ P) d (yw1 L en t l (n + d)) (yw1 L' en' t' m n) := by
 unfold yw1;by_cases h1 : xqp 3 [94] l = true
 · rw [if_pos h1, if_pos (show xqp 3 [94] m = true by rw [← xw7 h]; exact h1), xw7 (yz0 h)];have hp := here_q h en en' (nextT_ne h1)
   split
   · exact powB_q hL en en' d ht hp true (yz0 (yz0 h)) n
   · exact powB_q hL en en' d ht hp false (yz0 h) n
 · rw [if_neg h1, if_neg (show ¬ xqp 3 [94] m = true by rw [← xw7 h]; exact h1)];exact .ok ht h
theorem atomT_q {L L' : Lim} (hL : L.le L') (en en' d : Nat) {l m : List Tk} (h : All2 (TkR P) l m) (n : Nat) : PaQ P (TrQ P) d (yqm L en l (n + d)) (yqm L' en' m n) := by
 unfold yqm;cases h with
 | nil => exact .bad _ _ _
 | @cons a b l m h1 h2 =>
  dsimp only;rw [h1.isT]
  split
  · cases h2 with
    | nil => dsimp only; rw [h1.2.1]; exact yzn hL d (.one (NdQ.mk' _ _ _ _ _ _ h1.2.2)) _ _ .nil n
    | @cons c e l m h3 h4 =>
     dsimp only;rw [h3.isT, h1.2.1, h3.2.1]
     split
     · exact yzn hL d (.one (NdQ.mk' _ _ _ _ _ _ h1.2.2)) _ _ h4 n
     · exact yzn hL d (.one (NdQ.mk' _ _ _ _ _ _ h1.2.2)) _ _ (.cons h3 h4) n
  · rw [h1.1, h1.2.1]
    split
    · exact yzn hL d (.one (NdQ.mk' _ _ _ _ _ _ h1.2.2)) _ _ h2 n
    · exact .bad _ _ _
theorem loopT_q {L L' : Lim} (hL : L.le L') {d : Nat} {f f' : Rdr} (hf : RdQ P d f f') {op : Tk → Option Int} (ho : ∀ a b, TkR P a b → op a = op b) : ∀ (g : Nat) {t t' : List Nd}, TrQ P t t' → ∀ {l m : List Tk}, All2 (TkR P) l m → ∀ n, PaQ P (TrQ P) d (xv4 L f op g t l (n + d)) (xv4 L' f' op g t' m n) := by
 intro g;induction g with
 | zero => intro t t' ht l m h n; exact .ok ht h
 | succ g ih =>
  intro t t' ht l m h n;cases h with
  | nil => exact .ok ht .nil
  | @cons a b l m h1 h2 =>
   unfold xv4;rw [ho a b h1];cases op b with
   | none => exact .ok ht (.cons h1 h2)
   | some k =>
    dsimp only;refine (hf l m n h2).next fun u u' q q' m2 h3 h4 => ?_
    exact (yzn hL d (joinN_q ht h3 k h1.2.2) _ _ h4 m2).next fun t2 t2' q q' m3 h5 h6 => ih h5 h6 m3
theorem rowT_q {L L' : Lim} (hL : L.le L') {d : Nat} {f f' : Rdr} (hf : RdQ P d f f') {op : Tk → Option Int} (ho : ∀ a b, TkR P a b → op a = op b) : RdQ P d (rowT L f op) (rowT L' f' op) := by
 intro l m n h;refine (hf l m n h).next fun t t' q q' k h1 h2 => ?_
 rw [h2.len];exact loopT_q hL hf ho _ h1 h2 k
theorem mulO_q (a b : Tk) (h : TkR P a b) : mulO a = mulO b := by unfold mulO; rw [h.isT, h.isT]
theorem addO_q (a b : Tk) (h : TkR P a b) : addO a = addO b := by unfold addO; rw [h.isT, h.isT]
theorem formT_q {L L' : Lim} (hL : L.le L') {d : Nat} {f f' : Rdr} (hf : RdQ P d f f') : RdQ P d (yjw L f) (yjw L' f') := rowT_q hL (rowT_q hL hf mulO_q) addO_q
theorem facS_q {L L' : Lim} (hL : L.le L') (en en' : Nat) {d : Nat} {sub sub' : Option Rdr} (hs : ∀ f, sub = some f → ∃ f', sub' = some f' ∧ RdQ P d f f') : RdQ P d (zq9 L en sub) (zq9 L' en' sub') := by
 intro l m n h;unfold zq9;by_cases h1 : xqp 3 [45] l = true
 · rw [if_pos h1, if_pos (show xqp 3 [45] m = true by rw [← xw7 h]; exact h1)];have hp := here_q h en en' (nextT_ne h1);cases sub with
   | none => exact .lim _ _
   | some f =>
    obtain ⟨f', rfl, hf⟩ := hs f rfl;dsimp only;refine (hf _ _ n (yz0 h)).next fun a a' q q' k h2 h3 => yzn hL d (overN_q h2 _ _ hp) _ _ h3 k
 · rw [if_neg h1, if_neg (show ¬ xqp 3 [45] m = true by rw [← xw7 h]; exact h1)];by_cases h2 : xqp 3 [40] l = true
   · rw [if_pos h2, if_pos (show xqp 3 [40] m = true by rw [← xw7 h]; exact h2)];cases sub with
     | none => exact .lim _ _
     | some f =>
      obtain ⟨f', rfl, hf⟩ := hs f rfl;dsimp only;refine (formT_q hL hf _ _ n (yz0 h)).next fun a a' q q' k h3 h4 => ?_
      exact (xv9 en en' 3 [41] d k h4).next fun x x' q q' k h5 h6 => powT_q hL en en' d h3 h6 k
   · rw [if_neg h2, if_neg (show ¬ xqp 3 [40] m = true by rw [← xw7 h]; exact h2)];exact (atomT_q hL en en' d h n).next fun a a' q q' k h5 h6 => powT_q hL en en' d h5 h6 k
theorem facT_q {L L' : Lim} (hL : L.le L') (en en' d : Nat) : ∀ k k', k ≤ k' → RdQ P d (yjs L en k) (yjs L' en' k')
 | 0, 0, _ => facS_q hL en en' fun f h => by cases h
 | 0, k' + 1, _ => facS_q hL en en' fun f h => by cases h
 | k + 1, 0, h => absurd h (by omega)
 | k + 1, k' + 1, h => facS_q hL en en' fun f hf => by injection hf with hf; subst hf; exact ⟨_, rfl, facT_q hL en en' d k k' (by omega)⟩
theorem formL_q {L L' : Lim} (hL : L.le L') (en en' d : Nat) : RdQ P d (yjx L en) (yjx L' en') := formT_q hL (facT_q hL en en' d _ _ hL.2.2)
def DcQ (P : Nat → Nat → Prop) (x y : Dc) : Prop := x.k = y.k ∧ x.nm = y.nm ∧ x.ot = y.ot ∧ x.nu = y.nu ∧ x.va = y.va ∧ x.un = y.un ∧ TrQ P x.tr y.tr ∧ x.pl = y.pl ∧ ∃ a b : Nat, x.at' = (a : Int) ∧ y.at' = (b : Int) ∧ P a b
theorem zqn (en en' d : Nat) {x y : Dc} (hd : DcQ P x y) {l m : List Tk} (h : All2 (TkR P) l m) (n : Nat) : PaQ P (DcQ P) d (yq8 en x l (n + d)) (yq8 en' y m n) := by
 unfold yq8;exact (xv9 en en' 3 [59] d n h).next fun a a' q q' k h1 h2 => .ok hd h2
theorem unitT_q {l m : List Tk} (h : All2 (TkR P) l m) : (xv6 l).1 = (xv6 m).1 ∧ All2 (TkR P) (xv6 l).2 (xv6 m).2 := by
 cases h with
 | nil => exact ⟨rfl, .nil⟩
 | @cons a b l m h1 h2 =>
  unfold xv6;dsimp only;rw [h1.isT]
  split
  · exact ⟨h1.2.1, h2⟩
  · exact ⟨rfl, .cons h1 h2⟩
theorem outB_q (en en' d : Nat) {x y : Dc} (hd : DcQ P x y) {l m : List Tk} (h : All2 (TkR P) l m) (n : Nat) : PaQ P (DcQ P) d (outB en x l (n + d)) (outB en' y m n) := by
 unfold outB;refine (xv9 en en' 3 [58] d n h).next fun a a' q q' k h1 h2 => (xv9 en en' 2 [] d k h2).next fun b b' q q' k h3 h4 => ?_
 rw [h3.2.1];cases xvk b'.2.1 2 with
 | none => exact .bad _ _ _
 | some j =>
  dsimp only
  split
  · exact .lim _ _
  · obtain ⟨e1, e2, e3, e4, e5, e6, e7, e8, e9⟩ := hd;exact zqn en en' d (by exact ⟨e1, e2, e3, e4, e5, e6, e7, rfl, e9⟩) h4 k
theorem bodyT_q {L L' : Lim} (hL : L.le L') (en en' d w : Nat) {x y : Dc} (hd : DcQ P x y) {l m : List Tk} (h : All2 (TkR P) l m) (n : Nat) : PaQ P (DcQ P) d (yqk L en w x l (n + d)) (yqk L' en' w y m n) := by
 obtain ⟨e1, e2, e3, e4, e5, e6, e7, e8, e9⟩ := hd;unfold yqk
 split
 · exact (numT_q en en' d n h).next fun s s' q q' k h1 h2 => (xv9 en en' 4 [] d k h2).next fun u u' q q' k h3 h4 => zqn en en' d (by exact ⟨e1, e2, e3, h1, e5, h3.2.1, e7, e8, e9⟩) h4 k
 · split
   · refine (numT_q en en' d n h).next fun s s' q q' k h1 h2 => ?_
     obtain ⟨u1, u2⟩ := unitT_q h2;exact (xv9 en en' 3 [58] d k u2).next fun _ _ q q' k _ h4 => (numT_q en en' d k h4).next fun v v' q q' k h5 h6 => zqn en en' d (by exact ⟨e1, e2, e3, h1, h5, u1, e7, e8, e9⟩) h6 k
   · split
     · exact (numT_q en en' d n h).next fun s s' q q' k h1 h2 => zqn en en' d (by exact ⟨e1, e2, e3, h1, e5, e6, e7, e8, e9⟩) h2 k
     · split
       · exact (formL_q hL en en' d _ _ n h).next fun s s' q q' k h1 h2 => zqn en en' d (by exact ⟨e1, e2, e3, e4, e5, e6, h1, e8, e9⟩) h2 k
       · refine (formL_q hL en en' d _ _ n h).next fun s s' q q' k h1 h2 => ?_
         rw [xw7 h2]
         split
         · exact (xv9 en en' 4 [] d k (yz0 h2)).next fun u u' q q' k h3 h4 => outB_q en en' d (by exact ⟨e1, e2, e3, e4, e5, h3.2.1, h1, e8, e9⟩) h4 k
         · exact outB_q en en' d (by exact ⟨e1, e2, e3, e4, e5, e6, h1, e8, e9⟩) h2 k
theorem headT_q (en en' d w : Nat) {l m : List Tk} (h : All2 (TkR P) l m) (n : Nat) : PaQ P (DcQ P) d (yqy en w l (n + d)) (yqy en' w m n) := by
 unfold yqy;refine (nameT_q en en' d n h).next fun x x' q q' k h1 h2 => ?_
 split
 · exact (nameT_q en en' d k h2).next fun y y' q q' k h3 h4 => (xv9 en en' 3 [61] d k h4).next fun _ _ q q' k _ h6 => .ok ⟨rfl, h1.2.1, h3.2.1, rfl, rfl, rfl, .nil, rfl, _, _, rfl, rfl, h1.2.2⟩ h6
 · exact (xv9 en en' 3 [61] d k h2).next fun _ _ q q' k _ h6 => .ok ⟨rfl, h1.2.1, rfl, rfl, rfl, rfl, .nil, rfl, _, _, rfl, rfl, h1.2.2⟩ h6
theorem wordK_q (a b : Tk) (h : TkR P a b) : xvz a = xvz b := by unfold xvz; rw [h.isT, h.isT, h.isT, h.isT, h.isT]
theorem declT_q {L L' : Lim} (hL : L.le L') (en en' d : Nat) {i i' : Nat} (hi : i' ≤ i) {l m : List Tk} (h : All2 (TkR P) l m) (n : Nat) : PaQ P (DcQ P) d (xw8 L en i l (n + d)) (xw8 L' en' i' m n) := by
 unfold xw8;cases h with
 | nil => exact .bad _ _ _
 | @cons a b l m h1 h2 =>
  dsimp only;rw [wordK_q a b h1];cases xvz b with
  | none => exact .bad _ _ _
  | some w =>
   dsimp only;by_cases h60 : 60 ≤ i
   · rw [if_pos h60]; exact .lim _ _
   · rw [if_neg h60, if_neg (by omega)];exact (headT_q en en' d w h2 n).next fun x x' q q' k h3 h4 => bodyT_q hL en en' d w h3 h4 k
theorem scrT_q {L L' : Lim} (hL : L.le L') (en en' d : Nat) : ∀ (g : Nat) {i i' : Nat}, i' ≤ i → ∀ {l m : List Tk}, All2 (TkR P) l m → ∀ n, PaQ P (All2 (DcQ P)) d (ywh L en g i l (n + d)) (ywh L' en' g i' m n) := by
 intro g;induction g with
 | zero =>
  intro i i' hi l m h n;cases h with
  | nil => exact .ok .nil .nil
  | cons h1 h2 => exact .ok .nil (.cons h1 h2)
 | succ g ih =>
  intro i i' hi l m h n;cases h with
  | nil => exact .ok .nil .nil
  | @cons a b l m h1 h2 =>
   unfold ywh;exact (declT_q hL en en' d hi (.cons h1 h2) n).next fun x x' q q' k h3 h4 => (ih (by omega) h4 k).next fun xs xs' q q' k h5 h6 => .ok (.cons h3 h5) h6
end
section
def PaS {α : Type} (l : List Tk) (n : Nat) (r : PaR α) : Prop := ∀ a q m, r = .ok a q m → (∃ x, l = x ++ q) ∧ n ≤ m
theorem PaS.next {α β : Type} {l : List Tk} {n : Nat} {r : PaR α} {f : α → List Tk → Nat → PaR β} (h : PaS l n r) (k : ∀ a q m, PaS q m (f a q m)) : PaS l n (r.next f) := by
 intro b q m e;cases r with
 | bad e' p => cases e
 | ok a q' m' =>
  obtain ⟨⟨x, rfl⟩, h1⟩ := h a q' m' rfl;obtain ⟨⟨z, rfl⟩, h2⟩ := k a q' m' b q m e;exact ⟨⟨x ++ z, by rw [List.append_assoc]⟩, Nat.le_trans h1 h2⟩
theorem PaS.bad {α : Type} (l : List Tk) (n e p : Nat) : PaS l n (.bad e p : PaR α) := fun _ _ _ h => by cases h
theorem PaS.ok {α : Type} (l : List Tk) (a : α) (n : Nat) : PaS l n (.ok a l n) := fun _ _ _ h => by cases h; exact ⟨⟨[], rfl⟩, Nat.le_refl _⟩
theorem PaS.cons {α : Type} {t : Tk} {l : List Tk} {n : Nat} {r : PaR α} (h : PaS l n r) : PaS (t :: l) n r := fun a q m e => by obtain ⟨⟨x, rfl⟩, h2⟩ := h a q m e; exact ⟨⟨t :: x, rfl⟩, h2⟩
theorem PaS.tail {α : Type} {l : List Tk} {n : Nat} {r : PaR α} (h : PaS l.tail n r) : PaS l n r := by
 cases l with
 | nil => exact h
 | cons t l => exact PaS.cons h
theorem xv8 (en kd : Nat) (tx : List Nat) (l : List Tk) (n : Nat) : PaS l n (xjr en kd tx l n) := by
 cases l with
 | nil => exact .bad _ _ _ _
 | cons t r =>
  rw [xwh]
  split
  · exact .cons (.ok _ _ _)
  · exact .bad _ _ _ _
theorem nameT_s (en : Nat) (l : List Tk) (n : Nat) : PaS l n (yz9 en l n) := by
 cases l with
 | nil => exact .bad _ _ _ _
 | cons t r =>
  rw [xvj]
  split
  · exact .cons (.ok _ _ _)
  · exact .bad _ _ _ _
theorem yzm (L : Lim) (t : List Nd) (p : Nat) (l : List Tk) (n : Nat) : PaS l n (xvb L t p l n) := by
 unfold xvb
 split
 · exact .bad _ _ _ _
 · intro a q m e; injection e with _ e2 e3; exact ⟨⟨[], e2⟩, by omega⟩
theorem powB_s (L : Lim) (en : Nat) (t : List Nd) (pa : Nat) (sg : Bool) (l : List Tk) (n : Nat) : PaS l n (powB L en t pa sg l n) := by
 unfold powB;refine (xv8 _ _ _ _ _).next fun x q m => ?_
 cases xvk x.2.1 3 with
 | none => exact .bad _ _ _ _
 | some k =>
  dsimp only
  split
  · exact .bad _ _ _ _
  · exact yzm _ _ _ _ _
theorem powT_s (L : Lim) (en : Nat) (t : List Nd) (l : List Tk) (n : Nat) : PaS l n (yw1 L en t l n) := by
 unfold yw1
 split
 · split
   · exact .tail (.tail (powB_s _ _ _ _ _ _ _))
   · exact .tail (powB_s _ _ _ _ _ _ _)
 · exact .ok _ _ _
theorem atomT_s (L : Lim) (en : Nat) (l : List Tk) (n : Nat) : PaS l n (yqm L en l n) := by
 unfold yqm;cases l with
 | nil => exact .bad _ _ _ _
 | cons x r =>
  dsimp only
  split
  · cases r with
    | nil => exact .cons (yzm _ _ _ _ _)
    | cons y q =>
     dsimp only
     split
     · exact .cons (.cons (yzm _ _ _ _ _))
     · exact .cons (yzm _ _ _ _ _)
  · split
    · exact .cons (yzm _ _ _ _ _)
    · exact .bad _ _ _ _
def RdS (f : Rdr) : Prop := ∀ l n, PaS l n (f l n)
theorem loopT_s (L : Lim) {f : Rdr} (hf : RdS f) (op : Tk → Option Int) : ∀ (g : Nat) (t : List Nd) (l : List Tk) (n : Nat), PaS l n (xv4 L f op g t l n) := by
 intro g;induction g with
 | zero => intro t l n; exact .ok _ _ _
 | succ g ih =>
  intro t l n;cases l with
  | nil => exact .ok _ _ _
  | cons x r =>
   unfold xv4;cases op x with
   | none => exact .ok _ _ _
   | some k => exact .cons ((hf r n).next fun u q m => (yzm _ _ _ _ _).next fun t q m => ih t q m)
theorem rowT_s (L : Lim) {f : Rdr} (hf : RdS f) (op : Tk → Option Int) : RdS (rowT L f op) := fun l n => (hf l n).next fun t q m => loopT_s L hf op _ _ _ _
theorem formT_s (L : Lim) {f : Rdr} (hf : RdS f) : RdS (yjw L f) := rowT_s L (rowT_s L hf _) _
theorem facS_s (L : Lim) (en : Nat) {sub : Option Rdr} (hs : ∀ f, sub = some f → RdS f) : RdS (zq9 L en sub) := by
 intro l n;unfold zq9
 split
 · cases sub with
   | none => exact .bad _ _ _ _
   | some f => exact .tail ((hs f rfl _ _).next fun a q m => yzm _ _ _ _ _)
 · split
   · cases sub with
     | none => exact .bad _ _ _ _
     | some f => exact .tail ((formT_s L (hs f rfl) _ _).next fun a q m => (xv8 _ _ _ _ _).next fun b q m => powT_s _ _ _ _ _)
   · exact (atomT_s _ _ _ _).next fun a q m => powT_s _ _ _ _ _
theorem facT_s (L : Lim) (en : Nat) : ∀ d, RdS (yjs L en d)
 | 0 => facS_s L en fun f h => by cases h
 | d + 1 => facS_s L en fun f h => by injection h with h; subst h; exact facT_s L en d
theorem formL_s (L : Lim) (en : Nat) : RdS (yjx L en) := formT_s L (facT_s L en _)
theorem numB_s (en : Nat) (s : List Nat) (l : List Tk) (n : Nat) : PaS l n (numB en s l n) := by
 unfold numB;refine (xv8 _ _ _ _ _).next fun x q m => ?_
 split
 · exact .tail ((xv8 _ _ _ _ _).next fun x q m => .ok _ _ _)
 · exact .ok _ _ _
theorem numT_s (en : Nat) (l : List Tk) (n : Nat) : PaS l n (numT en l n) := by
 unfold numT
 split
 · exact .tail (numB_s _ _ _ _)
 · exact numB_s _ _ _ _
theorem zqm (en : Nat) (d : Dc) (l : List Tk) (n : Nat) : PaS l n (yq8 en d l n) := (xv8 _ _ _ _ _).next fun x q m => .ok _ _ _
theorem outB_s (en : Nat) (d : Dc) (l : List Tk) (n : Nat) : PaS l n (outB en d l n) := by
 unfold outB;refine (xv8 _ _ _ _ _).next fun _ q m => (xv8 _ _ _ _ _).next fun x q m => ?_
 cases xvk x.2.1 2 with
 | none => exact .bad _ _ _ _
 | some k =>
  dsimp only
  split
  · exact .bad _ _ _ _
  · exact zqm _ _ _ _
theorem unitT_s (l : List Tk) : ∃ x, l = x ++ (xv6 l).2 := by
 unfold xv6;cases l with
 | nil => exact ⟨[], rfl⟩
 | cons t r =>
  dsimp only
  split
  · exact ⟨[t], rfl⟩
  · exact ⟨[], rfl⟩
theorem PaS.of {α : Type} {l q : List Tk} {n : Nat} {r : PaR α} (h : ∃ x, l = x ++ q) (k : PaS q n r) : PaS l n r := by
 obtain ⟨x, rfl⟩ := h;intro a q' m e;obtain ⟨⟨z, rfl⟩, h2⟩ := k a q' m e;exact ⟨⟨x ++ z, by rw [List.append_assoc]⟩, h2⟩
theorem bodyT_s (L : Lim) (en k : Nat) (d : Dc) (l : List Tk) (n : Nat) : PaS l n (yqk L en k d l n) := by
 unfold yqk
 split
 · exact (numT_s _ _ _).next fun _ _ _ => (xv8 _ _ _ _ _).next fun _ _ _ => zqm _ _ _ _
 · split
   · exact (numT_s _ _ _).next fun _ _ _ => .of (unitT_s _) ((xv8 _ _ _ _ _).next fun _ _ _ => (numT_s _ _ _).next fun _ _ _ => zqm _ _ _ _)
   · split
     · exact (numT_s _ _ _).next fun _ _ _ => zqm _ _ _ _
     · split
       · exact (formL_s _ _ _ _).next fun _ _ _ => zqm _ _ _ _
       · refine (formL_s _ _ _ _).next fun _ _ _ => ?_
         split
         · exact .tail ((xv8 _ _ _ _ _).next fun _ _ _ => outB_s _ _ _ _)
         · exact outB_s _ _ _ _
theorem headT_s (en k : Nat) (l : List Tk) (n : Nat) : PaS l n (yqy en k l n) := by
 unfold yqy;refine (nameT_s _ _ _).next fun _ _ _ => ?_
 split
 · exact (nameT_s _ _ _).next fun _ _ _ => (xv8 _ _ _ _ _).next fun _ _ _ => .ok _ _ _
 · exact (xv8 _ _ _ _ _).next fun _ _ _ => .ok _ _ _
variable {y y' : List Tk}
theorem loopT_len (L : Lim) {f : Rdr} (hs : RdS f) (op : Tk → Option Int) : ∀ (g : Nat) (t : List Nd) (l : List Tk) (n : Nat), l.length ≤ g → xv4 L f op g t l n = xv4 L f op l.length t l n := by
 intro g;induction g using Nat.strongRecOn with
 | ind g ih =>
  intro t l n hg;cases l with
  | nil => cases g <;> rfl
  | cons x r =>
   cases g with
   | zero => simp at hg
   | succ g =>
    rw [List.length_cons] at hg ⊢;unfold xv4;cases op x with
    | none => rfl
    | some k =>
     dsimp only;cases hfr : f r n with
     | bad e p => rfl
     | ok u q m =>
      rw [PaR.next_ok, PaR.next_ok];have hq : q.length ≤ r.length := by
       obtain ⟨⟨z, e⟩, _⟩ := hs r n u q m hfr;rw [e, List.length_append]; omega
      unfold xvb
      split
      · rfl
      · rw [PaR.next_ok, PaR.next_ok, ih g (by omega) _ _ _ (by omega), ih r.length (by omega) _ _ _ hq]
end
section
theorem ToksK.tl {l : List Tk} (h : ToksK l) : ToksK l.tail := by
 cases l with
 | nil => exact h
 | cons t r => exact h.tail
theorem unitT_toks {l : List Tk} (h : ToksK l) : ToksK (xv6 l).2 := by
 obtain ⟨x, e⟩ := unitT_s l;rw [e] at h;exact h.behind
theorem wordK_some {w : Tk} {k : Nat} (h : xvz w = some k) : w.1 = 1 ∧ 1 ≤ k ∧ k ≤ 5 := by
 unfold xvz at h
 repeat' split at h
 all_goals first | (injection h with h; subst h; rename_i h; exact ⟨(xzk h).1, by decide, by decide⟩) | cases h
variable {y y' : List Tk}
end
section
def Any {α : Type} (_ _ : α) : Prop := True
variable {y : List Tk}
end
theorem lexS_unit {c : Nat} {r : List Nat} {s : List Nat} {n : Nat} (h : xwq c r = .tok 4 s n) : s.all yqg = true := by
 unfold xwq at h
 split at h
 · cases h
 · split at h
   · cases h
   · split at h
     · split at h <;> cases h
     · split at h
       · split at h <;> cases h
       · split at h
         · split at h
           · cases h
           · cases h; rw [xz5]; exact all_while r
         · split at h <;> cases h
theorem lexS_tok {c : Nat} {r s : List Nat} {k n a : Nat} (hb : Bytes (c :: r)) (h : xwq c r = .tok k s n) : TokK (k, s, a) := by
 refine ⟨lexS_kind h, ?_, fun e => ?_⟩
 · have h1 := (raw_at (a := a) h).2;intro x hx;have h2 : x ∈ (c :: r).take n := by
    rw [h1]; unfold rawT
    split
    · exact List.mem_cons_of_mem _ (List.mem_append_left _ hx)
    · exact hx
   exact hb x (List.mem_of_mem_take h2)
 · have e' : k = 4 := e;subst e'; exact lexS_unit h
theorem ywd {l : List Nat} (h : Bytes l) (n : Nat) : Bytes (l.drop n) := fun x hx => h x (List.mem_of_mem_drop hx)
theorem yw8 : ∀ (f a : Nat) (l : List Nat) (ts : List Tk), Bytes l → yv5 f a l = .ok ts → ∀ t ∈ ts, TokK t ∧ a ≤ t.2.2 ∧ t.2.2 < a + l.length
 | 0, _, _, _, _, h => by cases h
 | f + 1, a, [], ts, _, h => by cases h; simp
 | f + 1, a, c :: r, ts, hb, h => by
  unfold yv5 at h;cases e : xwq c r with
  | bad => rw [e] at h; cases h
  | skip n =>
   rw [e] at h;have hl := lexS_len.1 n e;intro t ht;obtain ⟨h1, h2, h3⟩ := yw8 f _ _ ts (ywd hb n) h t ht;rw [List.length_drop, List.length_cons] at h3;exact ⟨h1, by omega, by rw [List.length_cons]; omega⟩
  | tok k s n =>
   rw [e] at h;have hl := lexS_len.2 k s n e;dsimp only at h;cases e2 : yv5 f (a + n) ((c :: r).drop n) with
   | bad p => rw [e2] at h; cases h
   | ok us =>
    rw [e2] at h;cases h
    intro t ht;rcases List.mem_cons.1 ht with rfl | ht
    · exact ⟨lexS_tok hb e, Nat.le_refl _, by rw [List.length_cons]; show a < _; omega⟩
    · obtain ⟨h1, h2, h3⟩ := yw8 f _ _ us (ywd hb n) e2 t ht;rw [List.length_drop, List.length_cons] at h3;exact ⟨h1, by omega, by rw [List.length_cons]; omega⟩
theorem lexT_tok {l : List Nat} {ts : List Tk} (hb : Bytes l) (h : lexT l = .ok ts) : ToksK ts ∧ ∀ t ∈ ts, t.2.2 < l.length :=
 ⟨fun t ht => (yw8 _ _ _ _ hb h t ht).1, fun t ht => by have := (yw8 _ _ _ _ hb h t ht).2.2; omega⟩
def yzu (b : List Nat) : Bool := if (b.takeWhile (· ≠ 47)).length < b.length then xq0 (b.takeWhile (· ≠ 47)) && xq0 (b.drop ((b.takeWhile (· ≠ 47)).length + 1)) else xq0 b
def ywj (s : List Nat) : Bool :=
 match s with
 | [] => yzu []
 | c :: r => if c = 45 then yzu r else yzu (c :: r)
def unitG (u : List Nat) : Bool := decide (u.length ≤ 200) && u.all yqg && u.all (fun c => decide (c < 256))
def goodD (d : Dc) : Bool :=
 xjn d.nm && unitG d.un &&
 (if d.k = 1 then ywj d.nu && decide (d.un ≠ []) && decide (d.ot = []) && decide (d.va = []) && decide (d.tr.length = 0) && decide (d.pl = 0)
  else if d.k = 2 then ywj d.nu && ywj d.va && decide (d.ot = []) && decide (d.tr.length = 0) && decide (d.pl = 0)
  else if d.k = 3 then ywj d.nu && xjn d.ot && decide (d.va = []) && decide (d.un = []) && decide (d.tr.length = 0) && decide (d.pl = 0)
  else if d.k = 4 then xq5 d.tr && decide (d.ot = []) && decide (d.nu = []) && decide (d.va = []) && decide (d.un = []) && decide (d.pl = 0)
  else if d.k = 5 then xq5 d.tr && decide (0 ≤ d.pl) && decide (d.pl ≤ 60) && decide (d.ot = []) && decide (d.nu = []) && decide (d.va = [])
  else false)
theorem while_all {p : Nat → Bool} {l : List Nat} (h : ∀ c ∈ l, p c = true) (r : List Nat) : (l ++ r).takeWhile p = l ++ r.takeWhile p := List.takeWhile_append_of_pos h
theorem good_no47 {l : List Nat} (h : xq0 l = true) : ∀ c ∈ l, decide (c ≠ 47) = true := by
 intro c hc;obtain ⟨i, hi, rfl⟩ := List.getElem_of_mem hc;have hd : lim l i = l[i] := by unfold lim; rw [List.getD_eq_getElem?_getD, List.getElem?_eq_getElem hi]; rfl
 have := good_bytes h hi hd;rw [decide_eq_true_eq];rcases this with h | h | h | h <;> omega
theorem good_hd {l : List Nat} (h : xq0 l = true) : ∃ c r, l = c :: r ∧ c ≠ 45 := by
 obtain ⟨w, f, x, ho, rfl⟩ := good_mk h;have h1 := ho.whole;cases w with
 | nil => exact absurd rfl h1.2
 | cons c w =>
  refine ⟨c, w ++ litF f ++ litX x, by unfold yjd; simp, ?_⟩;have h2 := List.all_eq_true.1 h1.1 c (by simp);rintro rfl;exact absurd h2 (by decide)
theorem numH_one {l : List Nat} (h : xq0 l = true) : yzu l = true := by
 unfold yzu;have := while_all (good_no47 h) [];rw [List.append_nil] at this;rw [this, List.takeWhile_nil, List.append_nil, if_neg (by omega)]; exact h
theorem numH_two {l m : List Nat} (h : xq0 l = true) (h' : xq0 m = true) : yzu (l ++ [47] ++ m) = true := by
 unfold yzu;have e : (l ++ [47] ++ m).takeWhile (· ≠ 47) = l := by
  rw [List.append_assoc, while_all (good_no47 h)]; simp
 rw [e, if_pos (by simp), h, Bool.true_and];have e2 : (l ++ [47] ++ m).drop (l.length + 1) = m := by rw [show l.length + 1 = (l ++ [47]).length by simp, List.drop_left]
 rw [e2]; exact h'
theorem numG_bare {c : Nat} {r : List Nat} (hc : c ≠ 45) : ywj (c :: r) = yzu (c :: r) := by show (if c = 45 then yzu r else yzu (c :: r)) = _; rw [if_neg hc]
def PostN (L : Lim) (en : Nat) (l : List Tk) (n : Nat) : PaR (List Nat) → Prop
 | .ok s q m => (∃ x, l = x ++ q) ∧ m = n ∧ ywj s = true
 | .bad e p => FaultK en l e p
theorem numG_sg {sg : List Nat} (hs : sg = [] ∨ sg = [45]) {l : List Nat} (h : yzu l = true) (hd : ∃ c r, l = c :: r ∧ c ≠ 45) : ywj (sg ++ l) = true := by
 obtain ⟨c, r, rfl, hc⟩ := hd;rcases hs with rfl | rfl
 · rw [List.nil_append, numG_bare hc]; exact h
 · show (if (45 : Nat) = 45 then yzu (c :: r) else yzu (45 :: c :: r)) = true;rw [if_pos rfl]; exact h
theorem numB_post (L : Lim) (en : Nat) {sg : List Nat} (hs : sg = [] ∨ sg = [45]) {l : List Tk} (hl : ToksK l) (n : Nat) : PostN L en l n (numB en sg l n) := by
 unfold numB;have h := xjz en 2 [] l n;cases ht : xjr en 2 [] l n with
 | bad e p => rw [ht] at h; exact h
 | ok t r m =>
  rw [ht] at h;obtain ⟨rfl, h1, rfl⟩ := h;rw [PaR.next_ok];have hg := hl.head.lit (xzk h1).1;by_cases h2 : xqp 3 [47] r = true
  · rw [if_pos h2];obtain ⟨x, q, rfl, hx⟩ := xvu h2;have k := xjz en 2 [] q m;show PostN L en _ _ ((xjr en 2 [] q m).next _);cases hu : xjr en 2 [] q m with
    | bad e p => rw [hu] at k; exact FaultK.up k fun z hz => List.mem_cons_of_mem _ (List.mem_cons_of_mem _ hz)
    | ok u r m =>
     rw [hu] at k;obtain ⟨rfl, h3, rfl⟩ := k;have hg2 := hl.tail.tail.head.lit (xzk h3).1;obtain ⟨c, z, e, hc⟩ := good_hd hg;refine ⟨⟨[t, x, u], rfl⟩, rfl, ?_⟩;rw [List.append_assoc, List.append_assoc, ← List.append_assoc t.2.1];exact numG_sg hs (numH_two hg hg2) ⟨c, z ++ [47] ++ u.2.1, by rw [e]; simp, hc⟩
  · rw [if_neg h2];exact ⟨⟨[t], rfl⟩, rfl, numG_sg hs (numH_one hg) (good_hd hg)⟩
theorem PostN.cons {L : Lim} {en n : Nat} {t : Tk} {l : List Tk} {r : PaR (List Nat)} (h : PostN L en l n r) : PostN L en (t :: l) n r := by
 cases r with
 | bad e p => exact FaultK.up h fun z hz => List.mem_cons_of_mem _ hz
 | ok s q m => obtain ⟨⟨x, rfl⟩, h2, h3⟩ := h; exact ⟨⟨t :: x, rfl⟩, h2, h3⟩
theorem yz7 (L : Lim) (en : Nat) {l : List Tk} (hl : ToksK l) (n : Nat) : PostN L en l n (numT en l n) := by
 unfold numT;by_cases h : xqp 3 [45] l = true
 · rw [if_pos h];obtain ⟨t, r, rfl, ht⟩ := xvu h;exact (numB_post L en (.inr rfl) hl.tail n).cons
 · rw [if_neg h]; exact numB_post L en (.inl rfl) hl n
structure DcK (L : Lim) (l : List Tk) (d : Dc) : Prop where
 good : goodD d = true
 at' : ∃ z ∈ l, d.at' = (z.2.2 : Int)
 nds : ∀ y ∈ d.tr, ∃ z ∈ l, y.p = (z.2.2 : Int)
 pow : ∀ y ∈ d.tr, y.k = 8 → -(L.power : Int) ≤ y.n ∧ y.n ≤ (L.power : Int)
def PostD (L : Lim) (en : Nat) (l0 l : List Tk) (n0 n : Nat) : PaR Dc → Prop
 | .ok d q m => (∃ x, l = x ++ q) ∧ DcK L l0 d ∧ m = n0 + d.tr.length ∧ (m ≤ L.nodes ∨ m = n0)
 | .bad e p => FaultK en l0 e p
theorem yqa {L : Lim} {en n0 n : Nat} {d : Dc} {l0 l : List Tk} (hs : ∀ z ∈ l, z ∈ l0) (hd : DcK L l0 d) (hn : n = n0 + d.tr.length) (hm : n ≤ L.nodes ∨ n = n0) : PostD L en l0 l n0 n (yq8 en d l n) := by
 unfold yq8;have h := xjz en 3 [59] l n;cases ht : xjr en 3 [59] l n with
 | bad e p => rw [ht] at h; exact FaultK.up h hs
 | ok t r m =>
  rw [ht] at h;obtain ⟨rfl, h1, rfl⟩ := h;exact ⟨⟨[t], rfl⟩, hd, hn, hm⟩
theorem PostD.of {L : Lim} {en n0 n m : Nat} {l0 l q : List Tk} {r : PaR Dc} (h : PostD L en l0 q n0 m r) (hx : ∃ x, l = x ++ q) : PostD L en l0 l n0 n r := by
 cases r with
 | bad e p => exact h
 | ok d q' m' =>
  obtain ⟨⟨x, rfl⟩, h2⟩ := h;obtain ⟨z, rfl⟩ := hx;exact ⟨⟨z ++ x, by rw [List.append_assoc]⟩, h2⟩
structure HdK (l0 : List Tk) (k : Nat) (d : Dc) : Prop where
 kind : d.k = k
 nm : xjn d.nm = true
 ot : if k = 3 then xjn d.ot = true else d.ot = []
 rest : d.nu = [] ∧ d.va = [] ∧ d.un = [] ∧ d.tr = [] ∧ d.pl = 0
 at' : ∃ z ∈ l0, d.at' = (z.2.2 : Int)
theorem zqh : unitG [] = true := rfl
theorem TokK.unitG {t : Tk} (h : TokK t) (hk : t.1 = 4) : unitG t.2.1 = true ∧ t.2.1 ≠ [] := by
 have h1 := h.unit hk;unfold Proofs.YtannifhcjcbkcaaGreatDoor.unitG;have h3 : t.2.1.all (fun c => decide (c < 256)) = true := List.all_eq_true.2 fun c hc => decide_eq_true (h.2.1 c hc)
 rw [h.2.2 hk, decide_eq_true h1.2, h3];exact ⟨rfl, fun e => by rw [e] at h1; simp at h1⟩
theorem outB_post {L : Lim} {en n0 n : Nat} {d : Dc} {l0 l : List Tk} (hs : ∀ z ∈ l, z ∈ l0) (hd : ∀ k : Nat, k ≤ 60 → DcK L l0 { d with pl := k }) (hn : n = n0 + d.tr.length) (hm : n ≤ L.nodes ∨ n = n0) : PostD L en l0 l n0 n (outB en d l n) := by
 unfold outB;have h := xjz en 3 [58] l n;cases ht : xjr en 3 [58] l n with
 | bad e p => rw [ht] at h; exact FaultK.up h hs
 | ok t r m =>
  rw [ht] at h;obtain ⟨rfl, h1, rfl⟩ := h;rw [PaR.next_ok];have k := xjz en 2 [] r m;cases hu : xjr en 2 [] r m with
  | bad e p => rw [hu] at k; exact FaultK.up k fun z hz => hs z (List.mem_cons_of_mem _ hz)
  | ok x q m =>
   rw [hu] at k;obtain ⟨rfl, h3, rfl⟩ := k;rw [PaR.next_ok];have hx : x ∈ l0 := hs x (by simp);cases hsm : xvk x.2.1 2 with
   | none => exact ⟨.inr rfl, .inr ⟨x, hx, rfl⟩⟩
   | some j =>
    dsimp only;by_cases hj : 60 < j
    · rw [if_pos hj]; exact ⟨.inl rfl, .inr ⟨x, hx, rfl⟩⟩
    · rw [if_neg hj];exact (yqa (fun z hz => hs z (by simp [hz])) (hd j (by omega)) hn hm).of ⟨[t, x], rfl⟩
theorem bodyT_post {L : Lim} (hL : L.Fit) {en n0 k : Nat} (hk : 1 ≤ k ∧ k ≤ 5) {d : Dc} {l0 l : List Tk} (hs : ∀ z ∈ l, z ∈ l0) (hl : ToksK l) (hd : HdK l0 k d) : PostD L en l0 l n0 n0 (yqk L en k d l n0) := by
 obtain ⟨k1, k2, k3, ⟨r1, r2, r3, r4, r5⟩, k5⟩ := hd;obtain ⟨dk, nm, ot, nu, va, un, tr, pl, at'⟩ := d;dsimp only at k1 k2 k3 r1 r2 r3 r4 r5 k5;subst k1 r1 r2 r3 r4 r5;have nopow : ∀ y ∈ ([] : List Nd), y.k = 8 → -(L.power : Int) ≤ y.n ∧ y.n ≤ (L.power : Int) := fun y hy => by cases hy
 have nonds : ∀ y ∈ ([] : List Nd), ∃ z ∈ l0, y.p = (z.2.2 : Int) := fun y hy => by cases hy
 unfold yqk;by_cases h1 : k = 1
 · subst h1;rw [if_pos rfl];have h := yz7 L en hl n0;cases hr : numT en l n0 with
   | bad e p => rw [hr] at h; exact FaultK.up h hs
   | ok s r m =>
    rw [hr] at h;obtain ⟨⟨x, rfl⟩, rfl, hg⟩ := h;rw [PaR.next_ok];have hq := xjz en 4 [] r m;cases hu : xjr en 4 [] r m with
    | bad e p => rw [hu] at hq; exact FaultK.up hq fun z hz => hs z (List.mem_append_right _ hz)
    | ok u q m =>
     rw [hu] at hq;obtain ⟨rfl, h3, rfl⟩ := hq;rw [PaR.next_ok];obtain ⟨u1, u2⟩ := (hl.behind.head).unitG (xzk h3).1;rw [if_neg (by decide)] at k3;exact (yqa (fun z hz => hs z (by simp [hz])) ⟨by unfold goodD; simp [k2, u1, u2, hg, k3], k5, nonds, nopow⟩ rfl (.inr rfl)).of ⟨x ++ [u], by simp⟩
 · rw [if_neg h1];by_cases h2 : k = 2
   · subst h2;rw [if_pos rfl];have h := yz7 L en hl n0;cases hr : numT en l n0 with
     | bad e p => rw [hr] at h; exact FaultK.up h hs
     | ok s r m =>
      rw [hr] at h;obtain ⟨⟨x, rfl⟩, rfl, hg⟩ := h;rw [PaR.next_ok];have hlr := hl.behind;have hu1 : unitG (xv6 r).1 = true := by
       unfold xv6;cases r with
       | nil => rfl
       | cons t r =>
        dsimp only;by_cases h4 : isT 4 [] t = true
        · rw [if_pos h4]; exact (hlr.head.unitG (xzk h4).1).1
        · rw [if_neg h4]; rfl
      have hut := unitT_toks hlr;have hux := unitT_s r;generalize (xv6 r).1 = u at *;generalize (xv6 r).2 = r2 at *;obtain ⟨y, rfl⟩ := hux;have hq := xjz en 3 [58] r2 m;cases ht : xjr en 3 [58] r2 m with
      | bad e p => rw [ht] at hq; exact FaultK.up hq fun z hz => hs z (by simp [hz])
      | ok t q m =>
       rw [ht] at hq;obtain ⟨rfl, h3, rfl⟩ := hq;rw [PaR.next_ok];have h := yz7 L en hut.tail m;cases hr : numT en q m with
       | bad e p => rw [hr] at h; exact FaultK.up h fun z hz => hs z (by simp [hz])
       | ok v r m =>
        rw [hr] at h;obtain ⟨⟨z, rfl⟩, rfl, hv⟩ := h;rw [PaR.next_ok];rw [if_neg (by decide)] at k3;exact (yqa (fun w hw => hs w (by simp [hw])) ⟨by unfold goodD; simp [k2, hu1, hg, hv, k3], k5, nonds, nopow⟩ rfl (.inr rfl)).of ⟨x ++ (y ++ t :: z), by simp⟩
   · rw [if_neg h2];by_cases h3 : k = 3
     · subst h3;rw [if_pos rfl];have h := yz7 L en hl n0;cases hr : numT en l n0 with
       | bad e p => rw [hr] at h; exact FaultK.up h hs
       | ok s r m =>
        rw [hr] at h;obtain ⟨⟨x, rfl⟩, rfl, hg⟩ := h;rw [PaR.next_ok];rw [if_pos rfl] at k3;exact (yqa (fun z hz => hs z (by simp [hz])) ⟨by unfold goodD; simp [k2, hg, k3, zqh], k5, nonds, nopow⟩ rfl (.inr rfl)).of ⟨x, rfl⟩
     · rw [if_neg h3];rw [if_neg h3] at k3;have h := formL_fine hL en l n0 hl;by_cases h4 : k = 4
       · subst h4;rw [if_pos rfl];cases hr : yjx L en l n0 with
         | bad e p => rw [hr] at h; exact FaultK.up h hs
         | ok t r m =>
          rw [hr] at h;obtain ⟨h5, h6⟩ := h;obtain ⟨x, _, rfl, _⟩ := h5;replace h6 := h6.mono hs;rw [PaR.next_ok];exact (yqa (fun z hz => hs z (by simp [hz])) ⟨by unfold goodD; simp [k2, h6.good, k3, zqh], k5, h6.at', h6.pow⟩ h6.cnt (.inl h6.lim)).of ⟨x, rfl⟩
       · rw [if_neg h4];have hk5 : k = 5 := by omega
         subst hk5;cases hr : yjx L en l n0 with
         | bad e p => rw [hr] at h; exact FaultK.up h hs
         | ok t r m =>
          rw [hr] at h;obtain ⟨h5, h6⟩ := h;obtain ⟨x, _, rfl, _⟩ := h5;replace h6 := h6.mono hs;rw [PaR.next_ok];by_cases hin : xqp 1 [105, 110] r = true
          · rw [if_pos hin];obtain ⟨w, r, rfl, hw⟩ := xvu hin;have hq := xjz en 4 [] r m;show PostD L en l0 _ n0 n0 ((xjr en 4 [] r m).next _);cases hu : xjr en 4 [] r m with
            | bad e p => rw [hu] at hq; exact FaultK.up hq fun z hz => hs z (by simp [hz])
            | ok u q m =>
             rw [hu] at hq;obtain ⟨rfl, h3, rfl⟩ := hq;rw [PaR.next_ok];obtain ⟨u1, u2⟩ := (hl.behind.tail.head).unitG (xzk h3).1;exact (outB_post (fun z hz => hs z (by simp [hz])) (fun j hj => ⟨by unfold goodD; simp [k2, u1, h6.good, k3]; omega, k5, h6.at', h6.pow⟩) h6.cnt (.inl h6.lim)).of ⟨x ++ [w, u], by simp⟩
          · rw [if_neg hin];exact (outB_post (fun z hz => hs z (by simp [hz])) (fun j hj => ⟨by unfold goodD; simp [k2, zqh, h6.good, k3]; omega, k5, h6.at', h6.pow⟩) h6.cnt (.inl h6.lim)).of ⟨x, rfl⟩
def PostH (en : Nat) (l0 l : List Tk) (n k : Nat) : PaR Dc → Prop
 | .ok d q m => (∃ x, l = x ++ q) ∧ m = n ∧ HdK l0 k d
 | .bad e p => FaultK en l0 e p
theorem headT_post {en n k : Nat} {l0 l : List Tk} (hs : ∀ z ∈ l, z ∈ l0) : PostH en l0 l n k (yqy en k l n) := by
 unfold yqy;have h := nameT_post en l n;cases hr : yz9 en l n with
 | bad e p => rw [hr] at h; exact FaultK.up h hs
 | ok x r m =>
  rw [hr] at h;obtain ⟨rfl, h1, rfl⟩ := h;rw [PaR.next_ok];have hx : ∃ z ∈ l0, ((x.2.2 : Nat) : Int) = (z.2.2 : Int) := ⟨x, hs x (by simp), rfl⟩;by_cases h3 : k = 3
  · subst h3;rw [if_pos rfl];have h := nameT_post en r m;cases hr : yz9 en r m with
    | bad e p => rw [hr] at h; exact FaultK.up h fun z hz => hs z (by simp [hz])
    | ok y r m =>
     rw [hr] at h;obtain ⟨rfl, h2, rfl⟩ := h;rw [PaR.next_ok];have h := xjz en 3 [61] r m;cases hr : xjr en 3 [61] r m with
     | bad e p => rw [hr] at h; exact FaultK.up h fun z hz => hs z (by simp [hz])
     | ok t r m =>
      rw [hr] at h;obtain ⟨rfl, _, rfl⟩ := h;exact ⟨⟨[x, y, t], rfl⟩, rfl, ⟨rfl, h1.2, h2.2, ⟨rfl, rfl, rfl, rfl, rfl⟩, hx⟩⟩
  · rw [if_neg h3];have h := xjz en 3 [61] r m;cases hr : xjr en 3 [61] r m with
    | bad e p => rw [hr] at h; exact FaultK.up h fun z hz => hs z (by simp [hz])
    | ok t r m =>
     rw [hr] at h;obtain ⟨rfl, _, rfl⟩ := h;exact ⟨⟨[x, t], rfl⟩, rfl, ⟨rfl, h1.2, by rw [if_neg h3], ⟨rfl, rfl, rfl, rfl, rfl⟩, hx⟩⟩
theorem declT_post {L : Lim} (hL : L.Fit) {en n i : Nat} {l0 : List Tk} {w : Tk} {r : List Tk} (hs : ∀ z ∈ w :: r, z ∈ l0) (hl : ToksK (w :: r)) : PostD L en l0 r n n (xw8 L en i (w :: r) n) ∧ ∀ d q m, xw8 L en i (w :: r) n = .ok d q m → i < 60 := by
 unfold xw8;dsimp only;have hw0 : w ∈ l0 := hs w (by simp);cases hw : xvz w with
 | none => exact ⟨⟨.inr rfl, .inr ⟨w, hw0, rfl⟩⟩, fun d q m h => by cases h⟩
 | some k =>
  dsimp only;by_cases h60 : 60 ≤ i
  · rw [if_pos h60]; exact ⟨⟨.inl rfl, .inr ⟨w, hw0, rfl⟩⟩, fun d q m h => by cases h⟩
  · rw [if_neg h60];refine ⟨?_, fun _ _ _ _ => by omega⟩;have h := headT_post (en := en) (n := n) (k := k) (l0 := l0) (l := r) (fun z hz => hs z (by simp [hz]));cases hr : yqy en k r n with
    | bad e p => rw [hr] at h; exact h
    | ok d q m =>
     rw [hr] at h;obtain ⟨⟨x, rfl⟩, rfl, h2⟩ := h;rw [PaR.next_ok];exact (bodyT_post hL (wordK_some hw).2 (fun z hz => hs z (by simp [hz])) hl.tail.behind h2).of ⟨x, rfl⟩
def ndsD (ds : List Dc) : Nat := (ds.map fun d => d.tr.length).sum
def PostS (L : Lim) (en i : Nat) (l0 : List Tk) (n : Nat) : PaR (List Dc) → Prop
 | .ok ds q m => q = [] ∧ (∀ d ∈ ds, DcK L l0 d) ∧ m = n + ndsD ds ∧ m ≤ L.nodes ∧ (ds = [] ∨ i + ds.length ≤ 60)
 | .bad e p => FaultK en l0 e p
theorem scrT_post {L : Lim} (hL : L.Fit) {en : Nat} {l0 : List Tk} : ∀ (g i : Nat) (l : List Tk) (n : Nat), l.length ≤ g → (∀ z ∈ l, z ∈ l0) → ToksK l → n ≤ L.nodes → PostS L en i l0 n (ywh L en g i l n) := by
 intro g;induction g with
 | zero =>
  intro i l n hg hs hl hn;cases l with
  | nil => exact ⟨rfl, fun d hd => (by cases hd), rfl, hn, .inl rfl⟩
  | cons x r => simp at hg
 | succ g ih =>
  intro i l n hg hs hl hn;cases l with
  | nil => exact ⟨rfl, fun d hd => (by cases hd), rfl, hn, .inl rfl⟩
  | cons x r =>
   unfold ywh;obtain ⟨h, h60⟩ := declT_post hL (en := en) (n := n) (i := i) hs hl;cases hr : xw8 L en i (x :: r) n with
   | bad e p => rw [hr] at h; exact h
   | ok d q m =>
    rw [hr] at h;have hi := h60 d q m hr;obtain ⟨⟨z, rfl⟩, h2, rfl, h4⟩ := h;rw [PaR.next_ok];rw [List.length_cons, List.length_append] at hg;have k := ih (i + 1) q (n + d.tr.length) (by omega) (fun y hy => hs y (by simp [hy])) hl.tail.behind (by omega);cases hr2 : ywh L en g (i + 1) q (n + d.tr.length) with
    | bad e p => rw [hr2] at k; exact k
    | ok ds q2 m2 =>
     rw [hr2] at k;obtain ⟨rfl, k2, rfl, k4, k5⟩ := k;refine ⟨rfl, fun y hy => ?_, by unfold ndsD; rw [List.map_cons, List.sum_cons]; omega, k4, .inr ?_⟩
     · rcases List.mem_cons.1 hy with rfl | hy
       · exact h2
       · exact k2 y hy
     · rw [List.length_cons];rcases k5 with rfl | k5
       · simp; omega
       · omega
theorem declT_r {L : Lim} {en i : Nat} {w : Tk} {r : List Tk} {n : Nat} {d : Dc} {q : List Tk} {m : Nat} (h : xw8 L en i (w :: r) n = .ok d q m) : ∃ x, r = x ++ q := by
 unfold xw8 at h;dsimp only at h;cases hw : xvz w with
 | none => rw [hw] at h; cases h
 | some k =>
  rw [hw] at h;dsimp only at h;by_cases h60 : 60 ≤ i
  · rw [if_pos h60] at h; cases h
  · rw [if_neg h60] at h;exact (((headT_s en k r n).next fun d q m => bodyT_s L en k d q m) d q m h).1
theorem scrT_nil (L : Lim) (en g i n : Nat) : ywh L en g i [] n = .ok [] [] n := by cases g <;> rfl
theorem yz4 (L : Lim) (en g i : Nat) (x : Tk) (r : List Tk) (n : Nat) : ywh L en (g + 1) i (x :: r) n = (xw8 L en i (x :: r) n).next fun d r n => (ywh L en g (i + 1) r n).next fun ds r n => .ok (d :: ds) r n := rfl
theorem scrT_len (L : Lim) (en : Nat) : ∀ (g i : Nat) (l : List Tk) (n : Nat), l.length ≤ g → ywh L en g i l n = ywh L en l.length i l n := by
 intro g;induction g using Nat.strongRecOn with
 | ind g ih =>
  intro i l n hg;cases l with
  | nil => rw [scrT_nil, scrT_nil]
  | cons x r =>
   cases g with
   | zero => simp at hg
   | succ g =>
    rw [List.length_cons] at hg ⊢;rw [yz4, yz4];cases hd : xw8 L en i (x :: r) n with
    | bad e p => rfl
    | ok d q m =>
     rw [PaR.next_ok, PaR.next_ok];obtain ⟨z, rfl⟩ := declT_r hd;rw [List.length_append] at hg ⊢;rw [ih g (by omega) _ q _ (by omega), ih (z.length + q.length) (by omega) _ q _ (by omega)]
theorem cutL_fit (t d n p : Int) : (xjd t d n p).Fit := by unfold xjd Lim.Fit; dsimp only; omega
theorem yjb : mostL.Fit := by unfold mostL Lim.Fit; dsimp only; omega
theorem fit_most {L : Lim} (h : L.Fit) : L.le mostL := ⟨h.1, h.2.1, h.2.2.1⟩
theorem dcq_eq {x y : Dc} (h : DcQ Eq x y) : x = y := by
 obtain ⟨k, nm, ot, nu, va, un, tr, pl, at'⟩ := x;obtain ⟨e1, e2, e3, e4, e5, e6, e7, e8, a, b, e9, e10, e11⟩ := h;dsimp only at *
 have ht := All2.eq (R := NdQ Eq) (fun x y hxy => by
  obtain ⟨g1, a, b, g2, g3, g4⟩ := hxy;obtain ⟨k, aa, bb, n, t, u, p⟩ := x;obtain ⟨k', aa', bb', n', t', u', p'⟩ := y;unfold xjs at g1;simp only [Nd.mk.injEq] at g1 g2 g3 ⊢
  try dsimp only at g2 g3
  obtain ⟨i1, i2, i3, i4, i5, i6, _⟩ := g1
  exact ⟨i1, i2, i3, i4, i5, i6, by rw [g2, g3, g4]⟩) e7
 subst e1 e2 e3 e4 e5 e6 ht e8 e9 e11;rw [← e10]
theorem tkq_refl (t : Tk) : TkR Eq t t := ⟨rfl, rfl, rfl⟩
theorem scrV_ok {L : Lim} (hL : L.Fit) {s : List Nat} (hb : Bytes s) {ds : List Dc} {P : Int} (h : scrV L s = (ds, 0, P)) :
 P = 0 ∧ s.length ≤ L.text ∧ (∀ d ∈ ds, goodD d = true ∧ (0 ≤ d.at' ∧ d.at' < s.length) ∧ ∀ y ∈ d.tr, (0 ≤ y.p ∧ y.p < s.length) ∧ (y.k = 8 → -(L.power : Int) ≤ y.n ∧ y.n ≤ L.power)) ∧ ndsD ds ≤ L.nodes ∧ ds.length ≤ 60 ∧ scrV mostL s = (ds, 0, 0) := by
 unfold scrV at h ⊢;by_cases h0 : L.text < s.length
 · rw [if_pos h0] at h;cases h
 · rw [if_neg h0] at h;cases hl : lexT s with
   | bad p => rw [hl] at h; cases h
   | ok ts =>
    rw [hl] at h;dsimp only at h ⊢;obtain ⟨h1, h2⟩ := lexT_tok hb hl;have hp := scrT_post hL (en := s.length) (l0 := ts) ts.length 0 ts 0 (Nat.le_refl _) (fun z hz => hz) h1 (Nat.zero_le _);have hq := scrT_q (P := Eq) (fit_most hL) s.length s.length 0 ts.length (Nat.le_refl 0) (All2.refl tkq_refl ts) 0;cases hs : ywh L s.length ts.length 0 ts 0 with
    | bad e p => rw [hs] at h hp; cases h; exfalso; rcases (show (0 : Nat) = 2 ∨ (0 : Nat) = 12 from hp.1) with h | h <;> omega
    | ok a q m =>
     rw [hs] at h hp;cases h
     obtain ⟨_, p2, p3, p4, p5⟩ := hp;rw [Nat.zero_add] at p3;refine ⟨rfl, by omega, fun d hd => ?_, by omega, ?_, ?_⟩
     · obtain ⟨g, ⟨z, hz, e⟩, k3, k4⟩ := p2 d hd;have hz2 := h2 z hz;refine ⟨g, ⟨by omega, by omega⟩, fun y hy => ⟨?_, k4 y hy⟩⟩;obtain ⟨z, hz, e⟩ := k3 y hy;have hz2 := h2 z hz;exact ⟨by omega, by omega⟩
     · rcases p5 with rfl | p5
       · simp
       · omega
     · rw [if_neg (by show ¬ 4000 < s.length; have := hL.2.2.2; omega)];rw [Nat.add_zero, hs] at hq;rcases hq with ⟨p, hq⟩ | ⟨a1, q1, m1, a2, q2, e1, e2, e3, e4⟩ | ⟨e, p, p', e1, e2⟩
       · cases hq
       · injection e1 with e1 _ _
         subst e1;rw [e2, All2.eq (fun x y => dcq_eq) e3]
       · cases e1
def xj8 (d : Dc) : Dc := { d with tr := d.tr.map xjs, at' := 0 }
theorem bareT_q {P : Nat → Nat → Prop} {t u : List Nd} (h : TrQ P t u) : t.map xjs = u.map xjs := by
 unfold TrQ at h;induction h with
 | nil => rfl
 | cons h1 _ ih => rw [List.map_cons, List.map_cons, h1.1, ih]
theorem bareD_q {P : Nat → Nat → Prop} {x y : Dc} (h : DcQ P x y) : xj8 x = xj8 y := by
 obtain ⟨k, nm, ot, nu, va, un, tr, pl, at'⟩ := x;obtain ⟨k', nm', ot', nu', va', un', tr', pl', at''⟩ := y;obtain ⟨e1, e2, e3, e4, e5, e6, e7, e8, _⟩ := h;unfold xj8;dsimp only at *;rw [e1, e2, e3, e4, e5, e6, bareT_q e7, e8]
theorem bareL_q {P : Nat → Nat → Prop} {l m : List Dc} (h : All2 (DcQ P) l m) : l.map xj8 = m.map xj8 := by
 induction h with
 | nil => rfl
 | cons h1 _ ih => rw [List.map_cons, List.map_cons, bareD_q h1, ih]
def OwnT (w : World) (B : Nat) (A : Option Addr) (n c : Nat) (ts : List Nd) : Prop := n = ts.length ∧ OwnR w B 51 7 A n c (xql ts)
theorem OwnR.caps {w : World} {B sz n c : Nat} {e : TypeId} {A : Option Addr} {xs : List Value} (h : OwnR w B e sz A n c xs) : n ≤ c ∧ c ≤ maxLen := by
 rcases h.2 with ⟨hv, h0⟩ | ⟨g, cap, cur, hv, hB, hg, hnc, hcm, _⟩
 · injection hv with h1 h2 h3
   subst h2 h3;exact ⟨Nat.le_refl _, Nat.zero_le _⟩
 · injection hv with h1 h2 h3
   subst h3;exact ⟨hnc, hcm⟩
theorem OwnT.tree {w : World} {B n c : Nat} {A : Option Addr} {ts : List Nd} (h : OwnT w B A n c ts) : TreR w A n c ts := OwnR.tree h.2 h.1 h.2.caps.1 h.2.caps.2
theorem OwnT.below {w w' : World} {B n c : Nat} {A : Option Addr} {ts : List Nd} (h : OwnT w B A n c ts) (hb : Below w.heap.size w w') : OwnT w' B A n c ts := ⟨h.1, h.2.below hb⟩
theorem OwnT.blk {w : World} {B n c : Nat} {A : Option Addr} {ts : List Nd} (h : OwnT w B A n c ts) (h0 : 0 < n) : ∃ g, A = some ⟨g, 0, none⟩ ∧ B ≤ g ∧ g < w.heap.size := by
 obtain ⟨g, e, h1, h2, _⟩ := h.2.cells h0;exact ⟨g, e, h1, h2⟩
theorem ndCells_set {ts : List Nd} {i r : Nat} {x y : Nd} {v : Value} (hx : ts[i]? = some x) (hr : r < 7) (hy : (ndV x).toList.set r v = (ndV y).toList) : (xql ts).set (i * 7 + r) v = xql (ts.set i y) := by
 induction ts generalizing i with
 | nil => simp at hx
 | cons z ts ih =>
  have e : ∀ z ts, xql (z :: ts) = (ndV z).toList ++ xql ts := fun _ _ => rfl
  cases i with
  | zero =>
   obtain rfl : z = x := by simpa using hx
   rw [List.set_cons_zero, e, e, Nat.zero_mul, Nat.zero_add, List.set_append_left _ _ (by show r < 7; exact hr), hy]
  | succ i =>
   rw [List.set_cons_succ, e, e, List.set_append_right _ _ (by show 7 ≤ _; omega), show (i + 1) * 7 + r - (ndV z).toList.length = i * 7 + r by show (i + 1) * 7 + r - 7 = _; omega, ih (by simpa using hx)]
theorem OwnR.set {w : World} {B sz n c g : Nat} {e : TypeId} {xs : List Value} (h : OwnR w B e sz (some ⟨g, 0, none⟩) n c xs) {j : Nat} (hj : j < xs.length) (v : Value) : OwnR (w.setCell ⟨g, j, none⟩ v) B e sz (some ⟨g, 0, none⟩) n c (xs.set j v) := by
 refine ⟨by rw [List.length_set]; exact h.1, ?_⟩;rcases h.2 with ⟨hv, _⟩ | ⟨g2, cap, cur, hv, hB, hg, hnc, hcm, hcs, ht⟩
 · cases hv
 · injection hv with h1 h2 h3
   injection h1 with h1
   injection h1 with h1
   subst h1;refine .inr ⟨g, cap, cur.setIfInBounds j v, by rw [h3], hB, ?_, hnc, hcm, by rw [Array.size_setIfInBounds]; exact hcs, ?_⟩
   · have : RowA (w.setCell ⟨g, j, none⟩ v) g e (cur.setIfInBounds j v) := RowA.set (show RowA w g e cur from hg) j v;exact this
   · rw [Array.toList_setIfInBounds, ← ht];rw [← ht] at hj;have h1 := h.1;rw [List.take_set]
theorem OwnT.set {w : World} {B n c g : Nat} {ts : List Nd} (h : OwnT w B (some ⟨g, 0, none⟩) n c ts) {i r : Nat} {x y : Nd} {v : Value} (hx : ts[i]? = some x) (hr : r < 7) (hy : (ndV x).toList.set r v = (ndV y).toList) : OwnT (w.setCell ⟨g, i * 7 + r, none⟩ v) B (some ⟨g, 0, none⟩) n c (ts.set i y) := by
 refine ⟨by rw [List.length_set]; exact h.1, ?_⟩;rw [← ndCells_set hx hr hy];have hi := (List.getElem?_eq_some_iff.1 hx).1;exact h.2.set (by rw [xvd]; omega) v
theorem OwnT.free {w : World} {B n c g : Nat} {ts : List Nd} (h : OwnT w B (some ⟨g, 0, none⟩) n c ts) (j : Nat) : w.frozen? ⟨g, j, none⟩ = false := by
 rcases h.2.2 with ⟨hv, _⟩ | ⟨g2, cap, cur, hv, hB, hg, _⟩
 · cases hv
 · injection hv with h1 h2 h3
   injection h1 with h1
   injection h1 with h1
   subst h1;exact RowA.free (show RowA w g 51 cur from hg) j
theorem OwnT.inV {w : World} {B n c g : Nat} {ts : List Nd} (h : OwnT w B (some ⟨g, 0, none⟩) n c ts) {i : Nat} {x : Nd} (hx : ts[i]? = some x) : InV w g (i * 7) (ndV x) := by
 obtain ⟨g2, o, e, _, h3⟩ := h.tree.2.2.2 (by have := (List.getElem?_eq_some_iff.1 hx).1; have := h.1; omega);obtain ⟨g3, e3, _, _, _, _, h6⟩ := h.2.cells (by have := (List.getElem?_eq_some_iff.1 hx).1; have := h.1; omega);cases e3
 exact fun j v hj => h6 _ _ (yqd hx j v hj)
theorem ywu {w : World} {ops : Array Oper} {rest : List Oper} {o : Oper} {a : Act} {Q : Exit → Act → World → Prop} (hgd : o.guard = none) (s x : Operand)
 (ho : o.op = .call { callee := .builtin .append, args := #[s, x], argTypes := #[33, 33] })
 (base : Nat) (v : Value) (n : Nat) (xs : List Nd) (hs : a.eval s = v) (hown : Hid (w.ownsRow base 51 7 v n (xql xs)))
 (A : Option Addr) (m c : Nat) (ys : List Nd) (hx : a.eval x = .slice A m c) (hy : Hid (TreR w A m c ys)) (hb : Hid (n ≤ 1000000 ∧ m ≤ 1000000 ∧ base ≤ w.heap.size))
 (h : ∀ A2 c2 w', Hid (OwnR w' base 51 7 A2 (n + m) c2 (xql (xs ++ ys))) → Hid (w.grownBy w' v.ownBlock) → wpList Tryz.prog ops Q rest (a.put o.dst (.slice A2 (n + m) c2)) w') : wpList Tryz.prog ops Q (o :: rest) a w := by
 obtain ⟨i, z, h1, h2, h3, h4, h5, h6, h7⟩ := yw5;obtain ⟨b1, b2, b3⟩ := hb.out;obtain ⟨y1, y2, y3, y4⟩ := hy.out;rcases Nat.eq_zero_or_pos m with h0 | h0
 · subst h0;obtain rfl : ys = [] := List.eq_nil_of_length_eq_zero y1.symm;rcases A with _ | ad
   · refine wpList_plain hgd fun KK hK => ?_
     have hrun := run_append_nothing (P := Tryz.prog) w base 33 o.type 51 i 7 h1 h2 v n (xql xs) hown.out c;unfold Oper.wp execOp;simp only [ho, resolve, invoke, builtin, Sem.run_bind, Sem.run_pure, Result.andThen_ok, List.map_toArray, List.map_cons, List.map_nil, hs, hx, hrun];obtain ⟨A2, c2, rfl, how⟩ := xwk hown.out;exact hK _ _ (h A2 c2 w (by rw [List.append_nil]; exact how) (World.grownBy.refl w _))
   · refine wpList_append_own w hgd s x 33 ho base 51 i z 7 i.bytes h1 h2 h3 h4 rfl h5 h6 v n (xql xs) hs hown.out ad 0 c [] hx rfl (fun j u hu => by simp at hu) (fun u hu => by cases hu) (by unfold maxLen; omega) ?_ b3 ?_
     · exact Nat.le_trans (Nat.mul_le_mul (show n + 0 ≤ 1000001 by omega) h7) (by decide)
     · intro v' w' ho' hg _;obtain ⟨A2, c2, rfl, how⟩ := xwk ho';exact h A2 c2 w' (show OwnR _ _ _ _ _ _ _ _ from by rw [List.append_nil]; simpa using how) hg
 · obtain ⟨gs, os, rfl, hgs, hin⟩ := y4 h0;refine wpList_append_own w hgd s x 33 ho base 51 i z 7 i.bytes h1 h2 h3 h4 rfl h5 h6 v n (xql xs) hs hown.out ⟨gs, os, none⟩ m c (xql ys) hx (by rw [xvd, y1]) ?_ (zqx ys) (by unfold maxLen; omega) ?_ b3 ?_
   · intro j u hu;obtain ⟨i2, r, x2, rfl, hx2, hr⟩ := yzk hu;rw [Addr.add_mid, ← Nat.add_assoc];exact hin i2 x2 hx2 r u hr
   · exact Nat.le_trans (Nat.mul_le_mul (show n + m ≤ 2000000 by omega) h7) (by decide)
   · intro v' w' ho' hg _;rw [← yzl] at ho';obtain ⟨A2, c2, rfl, how⟩ := xwk ho';exact h A2 c2 w' how hg
theorem own_nd0 (w : World) : (w.alloc (.cells #[] 51)).ownsRow w.heap.size 51 7 (.slice (some ⟨w.heap.size, 0, none⟩) 0 0) 0 (xql []) := by
 have := World.ownsRow_lit (e := 51) (size := 7) w #[] 0 (Nat.le_refl _) (Nat.zero_le _) (by simp)
 simpa [xql] using this
theorem eqN_iff {x y : Nd} : eqN x y = true ↔ x = y := by
 constructor
 · intro h;unfold eqN ywv at h;simp only [Bool.and_eq_true, decide_eq_true_eq] at h;obtain ⟨⟨⟨⟨⟨⟨h1, h2⟩, h3⟩, h4⟩, h5⟩, h6⟩, h7⟩ := h;exact Nd.ext' h1 h2 h3 h4 h5 h6 h7
 · rintro rfl;unfold eqN ywv
   simp
def eqT : List Nd → List Nd → Bool
 | [], [] => true
 | x :: a, y :: b => eqN x y && eqT a b
 | _, _ => false
theorem eqT_iff : ∀ {a b : List Nd}, eqT a b = true ↔ a = b
 | [], [] => ⟨fun _ => rfl, fun _ => rfl⟩
 | [], y :: b => ⟨(fun h => by cases h), (fun h => by cases h)⟩
 | x :: a, [] => ⟨(fun h => by cases h), (fun h => by cases h)⟩
 | x :: a, y :: b => by
  unfold eqT;rw [Bool.and_eq_true, eqN_iff, eqT_iff, List.cons.injEq]
set_option maxRecDepth 100000 in
theorem kOwnT_c {w : World} {A : Option Addr} {n c : Nat} {ts : List Nd} (h : TreR w A n c ts) (hn6 : n ≤ 1000000) :
 Calls Tryz.prog 28 #[.slice A n c] w fun e w' => ∃ A2 c2, e = .returned (.slice A2 n c2) ∧ OwnT w' w.heap.size A2 n c2 ts ∧ Below w.heap.size w w' := by
 have hn := h.1;have bn := xqc w (.cells #[] 51);have Hx := hid (h.below bn);have Hown := hid (own_nd0 w);have Hb : Hid (0 ≤ 1000000 ∧ n ≤ 1000000 ∧ w.heap.size ≤ (w.alloc (.cells #[] 51)).heap.size) := ⟨by omega, hn6, by simp⟩;have HN := hid hn;clear h bn hn;go_enter Tryz.func28, Tryz.ntmps28;go_wp2_with (at_builtin; refine ywu rfl _ _ rfl w.heap.size _ 0 [] rfl Hown A n c ts rfl Hx Hb ?_);intro A2 c2 w' how hgrow;have HB := hid (below_lit hgrow.out (Nat.le_refl _));have HO : Hid (OwnT w' w.heap.size A2 n c2 ts) := ⟨HN.out, by have h := how.out; simpa using h⟩;clear how hgrow Hown Hb Hx
 try rw [Nat.zero_add]
 go_wp2
 go_ret
 exact ⟨_, _, by first | rfl | simp, HO.out, HB.out⟩
set_option maxRecDepth 100000 in
theorem kTree_c {w : World} {A B : Option Addr} {n c m0 d : Nat} {ts us : List Nd} (h1 : TreR w A n c ts) (h2 : TreR w B m0 d us) (v : Bool) (hv : eqT ts us = v) :
 Calls Tryz.prog 16 #[.slice A n c, .slice B m0 d] w fun e w' => e = .returned (.bool v) ∧ Below w.heap.size w w' := by
 obtain ⟨hn, hc, hcm, _⟩ := id h1;obtain ⟨hn2, hc2, hcm2, _⟩ := id h2;have H1 := hid h1;have H2 := hid h2;have HN1 := hid hn;have HN2 := hid hn2;have HV := hid hv;clear h1 h2 hn hn2 hv;have eq1 : maxLen = 9223372036854775807 := rfl;by_cases hl : n = m0
 · subst hl;go_enter Tryz.func16, Tryz.ntmps16;go_wp2
   go_loopw [5] (fun i wr => ∃ k0 : Nat, i = .int .i64 (k0 : Int) ∧ k0 ≤ n ∧ Hid (∀ i x y, i < k0 → ts[i]? = some x → us[i]? = some y → x = y) ∧ Hid (Below w.heap.size w wr)) (fun i _ => n - (intOf i).toNat)
   case atStart => exact ⟨0, rfl, Nat.zero_le _, fun i x y h => absurd h (Nat.not_lt_zero i), Below.refl _ _⟩
   case round =>
    obtain ⟨k0, rfl, hk, HP, HB⟩ := hrel;by_cases hlt : k0 < n
    · skip
      obtain ⟨x, hx⟩ : ∃ x, ts[k0]? = some x := ⟨_, List.getElem?_eq_getElem (by rw [← HN1.out]; exact hlt)⟩;obtain ⟨y, hy⟩ : ∃ y, us[k0]? = some y := ⟨_, List.getElem?_eq_getElem (by rw [← HN2.out]; exact hlt)⟩;have HX := hid hx;have HY := hid hy;obtain ⟨g, og, rfl, hg, hin⟩ := (H1.out.below HB.out).at hx;obtain ⟨g2, og2, rfl, hg2, hin2⟩ := (H2.out.below HB.out).at hy;obtain ⟨k1, a1, b1, m1, t1, u1, p1⟩ := x;obtain ⟨k2, a2, b2, m2, t2, u2, p2⟩ := y;have HI_1 : Hid (InV wr g (og + k0 * 7) (ndC k1 a1 b1 m1 t1 u1 p1)) := hin;have HI_2 : Hid (InV wr g2 (og2 + k0 * 7) (ndC k2 a2 b2 m2 t2 u2 p2)) := hin2;have HG1 := hid hg;have HG2 := hid hg2;have HM_1 := hid (xjx k1 a1 b1 m1 t1 u1 p1);have HM_2 := hid (xjx k2 a2 b2 m2 t2 u2 p2);clear hx hy hin hin2 hg hg2;go_wp2
      generalize wr = wS at *;have g1 : (k0 : Int) < (n : Int) := by omega
      cases hq : eqN ⟨k1, a1, b1, m1, t1, u1, p1⟩ ⟨k2, a2, b2, m2, t2, u2, p2⟩
      · skip
        have HQ := hid hq;have HV0 : Hid (v = false) := by
         show _ = _;rw [← HV.out];refine Bool.eq_false_iff.2 fun e0 => ?_
         have e := eqT_iff.1 e0;have h1 := HX.out;rw [e, HY.out] at h1;have h2 := eqN_iff.2 (Option.some.inj h1);have h3 : eqN ⟨k1, a1, b1, m1, t1, u1, p1⟩ ⟨k2, a2, b2, m2, t2, u2, p2⟩ = true := eqN_iff.2 (Option.some.inj h1).symm;rw [HQ.out] at h3; cases h3
        clear hq
        refine xj2 9 0 6 [17, 18, 19, 20, 21, 22, 23, 24, 25] ?aF4 (fun wx => Below wS.heap.size wS wx) (fun k vv wx => match k with
         | 0 => vv = .slice (some ⟨g, og, none⟩) n c
         | 1 => vv = .int .i64 (k0 : Int)
         | 2 => vv = .pointer (some ⟨g, og + k0 * 7, none⟩)
         | 3 => vv = .agg (ndC k1 a1 b1 m1 t1 u1 p1)
         | 4 => vv = .slice (some ⟨g2, og2, none⟩) n d
         | 5 => vv = .int .i64 (k0 : Int)
         | 6 => vv = .pointer (some ⟨g2, og2 + k0 * 7, none⟩)
         | 7 => vv = .agg (ndC k2 a2 b2 m2 t2 u2 p2)
         | _ => vv = .bool true)
         (fun k => false) (by kernel_rfl) ?haF4 rfl (by kernel_rfl) (by kernel_rfl) (fun _ _ _ _ _ h => h) ?hSb4 ?hPb4 ?hS4 ?hop4 ?hfin4
        case haF4 =>
         intro vals;simp only [xqx, List.getElem?_cons_zero, List.getElem?_cons_succ, Act.put, List.setIfInBounds_toArray, List.set_cons_zero, List.set_cons_succ];exact rfl
        case hSb4 => exact fun wx w2 hb hS => xqa hS hb
        case hPb4 =>
         intro k v wa wb hb h
         match k, h with
         | 0, h => exact h
         | 1, h => exact h
         | 2, h => exact h
         | 3, h => exact h
         | 4, h => exact h
         | 5, h => exact h
         | 6, h => exact h
         | 7, h => exact h
         | _ + 8, h => exact h
        case hS4 => exact (Below.refl _ _).drew
        case hop4 =>
         refine .cons (k := 0) (.plain rfl ?_) (.cons (k := 1) (.plain rfl ?_) (.cons (k := 2) (.plain rfl ?_) (.cons (k := 3) (.plain rfl ?_) (.cons (k := 4) (.plain rfl ?_) (.cons (k := 5) (.plain rfl ?_) (.cons (k := 6) (.plain rfl ?_) (.cons (k := 7) (.plain rfl ?_) (.cons (k := 8) (.plain rfl ?_) (.nil)))))))))
         all_goals intro vals wr hS hd KC hK
         all_goals (show Oper.wp _ _ _ _ _ _; dsimp only)
         · go_simp;refine hK _ _ rfl (Below.refl _ _) (by first | rfl | simp) (fun h => by cases h)
         · go_simp;refine hK _ _ rfl (Below.refl _ _) (by first | rfl | simp) (fun h => by cases h)
         · have d0 : vals 0 = _ := hd 0 (by decide +kernel);have d1 : vals 1 = _ := hd 1 (by decide +kernel);rw [d0, d1];go_simp;refine hK _ _ rfl (Below.refl _ _) (by first | rfl | simp) (fun h => by cases h)
         · have d2 : vals 2 = _ := hd 2 (by decide +kernel);rw [d2];refine xq1 51 _ rfl _ _ rfl (ndC k1 a1 b1 m1 t1 u1 p1) (hid HI_1.out.below HG1.out hS) (hid HM_1.out) ?_;refine hK _ _ rfl (Below.refl _ _) (by first | rfl | simp) (fun h => by cases h)
         · go_simp;refine hK _ _ rfl (Below.refl _ _) (by first | rfl | simp) (fun h => by cases h)
         · go_simp;refine hK _ _ rfl (Below.refl _ _) (by first | rfl | simp) (fun h => by cases h)
         · have d4 : vals 4 = _ := hd 4 (by decide +kernel);have d5 : vals 5 = _ := hd 5 (by decide +kernel);rw [d4, d5];go_simp;refine hK _ _ rfl (Below.refl _ _) (by first | rfl | simp) (fun h => by cases h)
         · have d6 : vals 6 = _ := hd 6 (by decide +kernel);rw [d6];refine xq1 51 _ rfl _ _ rfl (ndC k2 a2 b2 m2 t2 u2 p2) (hid HI_2.out.below HG2.out hS) (hid HM_2.out) ?_;refine hK _ _ rfl (Below.refl _ _) (by first | rfl | simp) (fun h => by cases h)
         · have d3 : vals 3 = _ := hd 3 (by decide +kernel);have d7 : vals 7 = _ := hd 7 (by decide +kernel);rw [d3, d7];have heq : ∀ W, (Op.equalIn 10000 51 (.agg (ndC k1 a1 b1 m1 t1 u1 p1)) (.agg (ndC k2 a2 b2 m2 t2 u2 p2))).run Tryz.prog W = .ok false W := fun W => yvk (x := ⟨k1, a1, b1, m1, t1, u1, p1⟩) (y := ⟨k2, a2, b2, m2, t2, u2, p2⟩) HQ.out W
           go_simp;refine hK _ _ rfl (Below.refl _ _) (by first | rfl | simp) (fun h => by cases h)
        case hfin4 =>
         intro vals wr hS hP hne;have ez_8 : vals 8 = _ := hP 8 (by decide)
         try dsimp only
         rw [ez_8];refine wpAny_done (by kernel_rfl) ?_ _;have HB2 := hid (xqa HB.out hS);clear hS hP hne;go_wp2
         go_ret
         exact ⟨by rw [HV0.out]; rfl, HB2.out⟩
      · skip
        have HQ := hid hq;have HP2 : Hid (∀ i x y, i < k0 + 1 → ts[i]? = some x → us[i]? = some y → x = y) := by
         intro i x y hi h1 h2;rcases Nat.lt_or_ge i k0 with h | h
         · exact HP.out i x y h h1 h2
         · obtain rfl : i = k0 := by omega
           obtain rfl := Option.some.inj (HX.out.symm.trans h1);obtain rfl := Option.some.inj (HY.out.symm.trans h2);exact eqN_iff.1 HQ.out
        clear hq HP
        refine xj2 9 0 6 [17, 18, 19, 20, 21, 22, 23, 24, 25] ?aF5 (fun wx => Below wS.heap.size wS wx) (fun k vv wx => match k with
         | 0 => vv = .slice (some ⟨g, og, none⟩) n c
         | 1 => vv = .int .i64 (k0 : Int)
         | 2 => vv = .pointer (some ⟨g, og + k0 * 7, none⟩)
         | 3 => vv = .agg (ndC k1 a1 b1 m1 t1 u1 p1)
         | 4 => vv = .slice (some ⟨g2, og2, none⟩) n d
         | 5 => vv = .int .i64 (k0 : Int)
         | 6 => vv = .pointer (some ⟨g2, og2 + k0 * 7, none⟩)
         | 7 => vv = .agg (ndC k2 a2 b2 m2 t2 u2 p2)
         | _ => vv = .bool false)
         (fun k => false) (by kernel_rfl) ?haF5 rfl (by kernel_rfl) (by kernel_rfl) (fun _ _ _ _ _ h => h) ?hSb5 ?hPb5 ?hS5 ?hop5 ?hfin5
        case haF5 =>
         intro vals;simp only [xqx, List.getElem?_cons_zero, List.getElem?_cons_succ, Act.put, List.setIfInBounds_toArray, List.set_cons_zero, List.set_cons_succ];exact rfl
        case hSb5 => exact fun wx w2 hb hS => xqa hS hb
        case hPb5 =>
         intro k v wa wb hb h
         match k, h with
         | 0, h => exact h
         | 1, h => exact h
         | 2, h => exact h
         | 3, h => exact h
         | 4, h => exact h
         | 5, h => exact h
         | 6, h => exact h
         | 7, h => exact h
         | _ + 8, h => exact h
        case hS5 => exact (Below.refl _ _).drew
        case hop5 =>
         refine .cons (k := 0) (.plain rfl ?_) (.cons (k := 1) (.plain rfl ?_) (.cons (k := 2) (.plain rfl ?_) (.cons (k := 3) (.plain rfl ?_) (.cons (k := 4) (.plain rfl ?_) (.cons (k := 5) (.plain rfl ?_) (.cons (k := 6) (.plain rfl ?_) (.cons (k := 7) (.plain rfl ?_) (.cons (k := 8) (.plain rfl ?_) (.nil)))))))))
         all_goals intro vals wr hS hd KC hK
         all_goals (show Oper.wp _ _ _ _ _ _; dsimp only)
         · go_simp;refine hK _ _ rfl (Below.refl _ _) (by first | rfl | simp) (fun h => by cases h)
         · go_simp;refine hK _ _ rfl (Below.refl _ _) (by first | rfl | simp) (fun h => by cases h)
         · have d0 : vals 0 = _ := hd 0 (by decide +kernel);have d1 : vals 1 = _ := hd 1 (by decide +kernel);rw [d0, d1];go_simp;refine hK _ _ rfl (Below.refl _ _) (by first | rfl | simp) (fun h => by cases h)
         · have d2 : vals 2 = _ := hd 2 (by decide +kernel);rw [d2];refine xq1 51 _ rfl _ _ rfl (ndC k1 a1 b1 m1 t1 u1 p1) (hid HI_1.out.below HG1.out hS) (hid HM_1.out) ?_;refine hK _ _ rfl (Below.refl _ _) (by first | rfl | simp) (fun h => by cases h)
         · go_simp;refine hK _ _ rfl (Below.refl _ _) (by first | rfl | simp) (fun h => by cases h)
         · go_simp;refine hK _ _ rfl (Below.refl _ _) (by first | rfl | simp) (fun h => by cases h)
         · have d4 : vals 4 = _ := hd 4 (by decide +kernel);have d5 : vals 5 = _ := hd 5 (by decide +kernel);rw [d4, d5];go_simp;refine hK _ _ rfl (Below.refl _ _) (by first | rfl | simp) (fun h => by cases h)
         · have d6 : vals 6 = _ := hd 6 (by decide +kernel);rw [d6];refine xq1 51 _ rfl _ _ rfl (ndC k2 a2 b2 m2 t2 u2 p2) (hid HI_2.out.below HG2.out hS) (hid HM_2.out) ?_;refine hK _ _ rfl (Below.refl _ _) (by first | rfl | simp) (fun h => by cases h)
         · have d3 : vals 3 = _ := hd 3 (by decide +kernel);have d7 : vals 7 = _ := hd 7 (by decide +kernel);rw [d3, d7];have heq : ∀ W, (Op.equalIn 10000 51 (.agg (ndC k1 a1 b1 m1 t1 u1 p1)) (.agg (ndC k2 a2 b2 m2 t2 u2 p2))).run Tryz.prog W = .ok true W := fun W => yvk (x := ⟨k1, a1, b1, m1, t1, u1, p1⟩) (y := ⟨k2, a2, b2, m2, t2, u2, p2⟩) HQ.out W
           go_simp;refine hK _ _ rfl (Below.refl _ _) (by first | rfl | simp) (fun h => by cases h)
        case hfin5 =>
         intro vals wr hS hP hne;have ez_8 : vals 8 = _ := hP 8 (by decide)
         try dsimp only
         rw [ez_8];refine wpAny_done (by kernel_rfl) ?_ _;have HB2 := hid (xqa HB.out hS);clear hS hP hne;go_wp2
         go_roundw
         case rel => exact ⟨k0 + 1, by go_num, hlt, HP2, HB2⟩
         case measure => simp [intOf]; omega
    · obtain rfl : n = k0 := by omega
      have HV1 : Hid (v = true) := by
       show _ = _;rw [← HV.out];refine eqT_iff.2 (List.ext_getElem? fun i => ?_);by_cases hi : i < n
       · have h1 : ts[i]? = some (ts[i]'(by rw [← HN1.out]; exact hi)) := List.getElem?_eq_getElem _;have h2 : us[i]? = some (us[i]'(by rw [← HN2.out]; exact hi)) := List.getElem?_eq_getElem _;rw [h1, h2, HP.out i _ _ hi h1 h2]
       · rw [List.getElem?_eq_none (by rw [← HN1.out]; omega), List.getElem?_eq_none (by rw [← HN2.out]; omega)]
      go_wp2
      go_ret
      exact ⟨by rw [HV1.out]; rfl, HB.out⟩
 · have HV0 : Hid (v = false) := by
    show _ = _;rw [← HV.out];exact Bool.eq_false_iff.2 fun e => hl (by rw [HN1.out, HN2.out, eqT_iff.1 e])
   have e0 : ((n : Int) != (m0 : Int)) = true := by rw [bne_iff_ne]; omega
   go_enter Tryz.func16, Tryz.ntmps16;go_wp2
   go_ret
   exact ⟨by rw [HV0.out]; rfl, Below.refl _ _⟩
abbrev dcC (k : Int) (nm ot nu va un : ByteArray) (A : Option Addr) (n c : Nat) (pl at' : Int) : Array Value := #[.int .i64 k, .string nm, .string ot, .string nu, .string va, .string un, .slice A n c, .int .i64 pl, .int .i64 at']
structure DS where
 d : Dc
 A : Option Addr
 n : Nat
 c : Nat
def dcV (x : DS) : Array Value := dcC x.d.k (strOf x.d.nm) (strOf x.d.ot) (strOf x.d.nu) (strOf x.d.va) (strOf x.d.un) x.A x.n x.c x.d.pl x.d.at'
abbrev zDc : Array Value := dcC 0 ⟨#[]⟩ ⟨#[]⟩ ⟨#[]⟩ ⟨#[]⟩ ⟨#[]⟩ none 0 0 0 0
theorem size_dcV (x : DS) : (dcV x).size = 9 := rfl
theorem dcV_one (x : DS) : ∀ v ∈ dcV x, v.oneCell' = true := by simp [dcV, Value.oneCell']
def xzq (xs : List DS) : List Value := xs.flatMap fun x => (dcV x).toList
theorem ywr (xs : List DS) (x : DS) : xzq (xs ++ [x]) = xzq xs ++ (dcV x).toList := by simp [xzq]
theorem len_dcCells (xs : List DS) : (xzq xs).length = xs.length * 9 := by
 induction xs with
 | nil => rfl
 | cons x xs ih => show ((dcV x).toList ++ xzq xs).length = _; rw [List.length_append, ih]; simp [dcV]; omega
theorem ywc : ∀ {xs : List DS} {i : Nat} {x : DS}, xs[i]? = some x → ∀ j v, (dcV x)[j]? = some v → (xzq xs)[i * 9 + j]? = some v
 | [], i, x, h, _, _, _ => by simp at h
 | y :: xs, 0, x, h, j, v, hj => by
  obtain rfl : y = x := by simpa using h
  have hl : j < 9 := by
   rcases Nat.lt_or_ge j 9 with h1 | h1
   · exact h1
   · rw [Array.getElem?_eq_none (by rw [size_dcV]; exact h1)] at hj; cases hj
  show ((dcV y).toList ++ xzq xs)[0 * 9 + j]? = some v;rw [Nat.zero_mul, Nat.zero_add, List.getElem?_append_left (by simpa [dcV] using hl)]
  simpa using hj
 | y :: xs, i + 1, x, h, j, v, hj => by
  have := ywc (xs := xs) (i := i) (x := x) (by simpa using h) j v hj;show ((dcV y).toList ++ xzq xs)[(i + 1) * 9 + j]? = some v;rw [List.getElem?_append_right (by simp [dcV]; omega), show (i + 1) * 9 + j - (dcV y).toList.length = i * 9 + j by simp [dcV]; omega];exact this
theorem dcs_elem : Elem Tryz.prog 26 62 9 := zjc Tryz.underlying26 (v := .agg zDc) (b := 128) (by kernel_rfl) rfl (by decide) (by decide)
theorem yq7 : (Tryz.prog.info? 62).map (·.size) = some 9 := by kernel_rfl
theorem xq3 (k : Int) (nm ot nu va un : ByteArray) (A : Option Addr) (n c : Nat) (pl at' : Int) : xq7 Tryz.prog 62 (dcC k nm ot nu va un A n c pl at').size := ⟨yq7, _, Tryz.underlying62, rfl⟩
theorem manyDS (x : DS) : xq7 Tryz.prog 62 (dcV x).size := xq3 _ _ _ _ _ _ _ _ _ _ _
theorem fitsDz (x : DS) : xq7 Tryz.prog 62 (dcV x).size ∧ zDc.size = (dcV x).size ∧ ∀ v ∈ dcV x, v.oneCell' = true := ⟨manyDS x, rfl, dcV_one x⟩
def DsR (w : World) (xs : List DS) : Prop := ∀ x ∈ xs, TreR w x.A x.n x.c x.d.tr
theorem DsR.below {w w' : World} {xs : List DS} (h : DsR w xs) (hb : Below w.heap.size w w') : DsR w' xs := fun x hx => (h x hx).below hb
def DcR (w : World) (A : Option Addr) (n c : Nat) (ds : List Dc) : Prop := ∃ xs : List DS, xs.map DS.d = ds ∧ n = xs.length ∧ n ≤ c ∧ c ≤ maxLen ∧ DsR w xs ∧ (0 < n → ∃ g o, A = some ⟨g, o, none⟩ ∧ g < w.heap.size ∧ ∀ i x, xs[i]? = some x → InV w g (o + i * 9) (dcV x))
theorem DcR.below {w w' : World} {A : Option Addr} {n c : Nat} {ds : List Dc} (h : DcR w A n c ds) (hb : Below w.heap.size w w') : DcR w' A n c ds := by
 obtain ⟨xs, h1, h2, h3, h4, h5, h6⟩ := h;refine ⟨xs, h1, h2, h3, h4, h5.below hb, fun h0 => ?_⟩;obtain ⟨g, o, e, hg, hc⟩ := h6 h0;exact ⟨g, o, e, Nat.lt_of_lt_of_le hg hb.size, fun i x hx => (hc i x hx).below hg hb⟩
theorem DcR.len {w : World} {A : Option Addr} {n c : Nat} {ds : List Dc} (h : DcR w A n c ds) : n = ds.length := by
 obtain ⟨xs, h1, h2, _⟩ := h;rw [← h1, List.length_map]; exact h2
theorem DcR.at {w : World} {A : Option Addr} {n c : Nat} {ds : List Dc} (h : DcR w A n c ds) {i : Nat} {d : Dc} (hi : ds[i]? = some d) : ∃ g o B m k, A = some ⟨g, o, none⟩ ∧ g < w.heap.size ∧ InV w g (o + i * 9) (dcV ⟨d, B, m, k⟩) ∧ TreR w B m k d.tr := by
 obtain ⟨xs, h1, h2, h3, h4, h5, h6⟩ := h;subst h1;rw [List.getElem?_map] at hi;obtain ⟨x, hx, rfl⟩ := Option.map_eq_some_iff.1 hi;obtain ⟨g, o, e, hg, hc⟩ := h6 (by have := (List.getElem?_eq_some_iff.1 hx).1; omega);exact ⟨g, o, x.A, x.n, x.c, e, hg, hc i x hx, h5 x (List.mem_of_getElem? hx)⟩
theorem DcR.nil (w : World) {A : Option Addr} {c : Nat} (hc : c ≤ maxLen) : DcR w A 0 c [] := ⟨[], rfl, rfl, Nat.zero_le _, hc, fun x hx => (by cases hx), fun h => absurd h (by omega)⟩
def OwnD (w : World) (B : Nat) (A : Option Addr) (n c : Nat) (xs : List DS) : Prop := n = xs.length ∧ OwnR w B 62 9 A n c (xzq xs)
theorem OwnD.below {w w' : World} {B n c : Nat} {A : Option Addr} {xs : List DS} (h : OwnD w B A n c xs) (hb : Below w.heap.size w w') : OwnD w' B A n c xs := ⟨h.1, h.2.below hb⟩
theorem OwnD.row {w : World} {B n c : Nat} {A : Option Addr} {xs : List DS} (h : OwnD w B A n c xs) (hd : DsR w xs) : DcR w A n c (xs.map DS.d) := by
 refine ⟨xs, rfl, h.1, h.2.caps.1, h.2.caps.2, hd, fun h0 => ?_⟩;obtain ⟨g, e, _, h4, _, h5, h6⟩ := h.2.cells h0;exact ⟨g, 0, e, h4, fun i x hx j v hj => by rw [Nat.zero_add]; exact h6 _ _ (ywc hx j v hj)⟩
theorem OwnD.blk {w : World} {B n c : Nat} {A : Option Addr} {xs : List DS} (h : OwnD w B A n c xs) (h0 : 0 < n) : ∃ g, A = some ⟨g, 0, none⟩ ∧ B ≤ g ∧ g < w.heap.size := by
 obtain ⟨g, e, h1, h2, _⟩ := h.2.cells h0;exact ⟨g, e, h1, h2⟩
theorem OwnD.inV {w : World} {B n c g : Nat} {xs : List DS} (h : OwnD w B (some ⟨g, 0, none⟩) n c xs) {i : Nat} {x : DS} (hx : xs[i]? = some x) : InV w g (i * 9) (dcV x) := by
 obtain ⟨g3, e3, _, _, _, _, h6⟩ := h.2.cells (by have := (List.getElem?_eq_some_iff.1 hx).1; have := h.1; omega);cases e3
 exact fun j v hj => h6 _ _ (ywc hx j v hj)
theorem OwnD.free {w : World} {B n c g : Nat} {xs : List DS} (h : OwnD w B (some ⟨g, 0, none⟩) n c xs) (j : Nat) : w.frozen? ⟨g, j, none⟩ = false := by
 rcases h.2.2 with ⟨hv, _⟩ | ⟨g2, cap, cur, hv, hB, hg, _⟩
 · cases hv
 · injection hv with h1 h2 h3
   injection h1 with h1
   injection h1 with h1
   subst h1;exact RowA.free (show RowA w g 62 cur from hg) j
theorem dcCells_set {xs : List DS} {i r : Nat} {x y : DS} {v : Value} (hx : xs[i]? = some x) (hr : r < 9) (hy : (dcV x).toList.set r v = (dcV y).toList) : (xzq xs).set (i * 9 + r) v = xzq (xs.set i y) := by
 induction xs generalizing i with
 | nil => simp at hx
 | cons z xs ih =>
  have e : ∀ z xs, xzq (z :: xs) = (dcV z).toList ++ xzq xs := fun _ _ => rfl
  cases i with
  | zero =>
   obtain rfl : z = x := by simpa using hx
   rw [List.set_cons_zero, e, e, Nat.zero_mul, Nat.zero_add, List.set_append_left _ _ (by show r < 9; exact hr), hy]
  | succ i =>
   rw [List.set_cons_succ, e, e, List.set_append_right _ _ (by show 9 ≤ _; omega), show (i + 1) * 9 + r - (dcV z).toList.length = i * 9 + r by show (i + 1) * 9 + r - 9 = _; omega, ih (by simpa using hx)]
theorem OwnD.set {w : World} {B n c g : Nat} {xs : List DS} (h : OwnD w B (some ⟨g, 0, none⟩) n c xs) {i r : Nat} {x y : DS} {v : Value} (hx : xs[i]? = some x) (hr : r < 9) (hy : (dcV x).toList.set r v = (dcV y).toList) : OwnD (w.setCell ⟨g, i * 9 + r, none⟩ v) B (some ⟨g, 0, none⟩) n c (xs.set i y) := by
 refine ⟨by rw [List.length_set]; exact h.1, ?_⟩;rw [← dcCells_set hx hr hy];have hi := (List.getElem?_eq_some_iff.1 hx).1;exact h.2.set (by rw [len_dcCells]; omega) v
theorem yj0 {s t : ByteArray} (h : s ≠ t) : (s.toList == t.toList) = false := by
 rw [beq_eq_false_iff_ne];intro e;exact h (by rw [ByteArray.toList_eq, ByteArray.toList_eq] at e; exact ByteArray.ext (Array.toList_inj.1 e))
theorem DcR.at2 {w : World} {A : Option Addr} {n c : Nat} {ds : List Dc} (h : DcR w A n c ds) {i : Nat} {d : Dc} (hi : ds[i]? = some d) : ∃ g o B m k nm ot nu va un, A = some ⟨g, o, none⟩ ∧ g < w.heap.size ∧ InV w g (o + i * 9) (dcC d.k nm ot nu va un B m k d.pl d.at') ∧ TreR w B m k d.tr ∧ strOf d.nm = nm ∧ strOf d.ot = ot ∧ strOf d.nu = nu ∧ strOf d.va = va ∧ strOf d.un = un := by
 obtain ⟨g, o, B, m, k, h1, h2, h3, h4⟩ := h.at hi;exact ⟨g, o, B, m, k, _, _, _, _, _, h1, h2, h3, h4, rfl, rfl, rfl, rfl, rfl⟩
def eqD (x y : Dc) : Bool := decide (x.k = y.k) && decide (strOf x.nm = strOf y.nm) && decide (strOf x.ot = strOf y.ot) && decide (strOf x.nu = strOf y.nu) && decide (strOf x.va = strOf y.va) && decide (strOf x.un = strOf y.un) && eqT x.tr y.tr && decide (x.pl = y.pl) && decide (x.at' = y.at')
def eqDs : List Dc → List Dc → Bool
 | [], [] => true
 | x :: a, y :: b => eqD x y && eqDs a b
 | _, _ => false
theorem eqD_refl (x : Dc) : eqD x x = true := by unfold eqD; simp [eqT_iff.2]
theorem eqDs_refl : ∀ l : List Dc, eqDs l l = true
 | [] => rfl
 | x :: l => by unfold eqDs; rw [eqD_refl, eqDs_refl l]; rfl
theorem eqDs_len : ∀ {a b : List Dc}, eqDs a b = true → a.length = b.length
 | [], [], _ => rfl
 | [], _ :: _, h => by cases h
 | _ :: _, [], h => by cases h
 | x :: a, y :: b, h => by
  unfold eqDs at h;rw [Bool.and_eq_true] at h;rw [List.length_cons, List.length_cons, eqDs_len h.2]
theorem eqDs_no {a b : List Dc} (h : a.length ≠ b.length) : eqDs a b = false := by
 rw [Bool.eq_false_iff]; exact fun e => h (eqDs_len e)
theorem eqDs_take {a b : List Dc} {i : Nat} {x y : Dc} (hx : a[i]? = some x) (hy : b[i]? = some y) (h : eqDs (a.take i) (b.take i) = true) (e : eqD x y = true) : eqDs (a.take (i + 1)) (b.take (i + 1)) = true := by
 induction a generalizing b i with
 | nil => simp at hx
 | cons u a ih =>
  cases b with
  | nil => simp at hy
  | cons v b =>
   cases i with
   | zero =>
    obtain rfl : u = x := by simpa using hx
    obtain rfl : v = y := by simpa using hy
    show (eqD u v && eqDs [] []) = true;rw [e]; rfl
   | succ i =>
    have h2 : (eqD u v && eqDs (a.take i) (b.take i)) = true := h;rw [Bool.and_eq_true] at h2;show (eqD u v && eqDs (a.take (i + 1)) (b.take (i + 1))) = true;rw [h2.1, ih (by simpa using hx) (by simpa using hy) h2.2]; rfl
theorem eqDs_bad {a b : List Dc} {i : Nat} {x y : Dc} (hx : a[i]? = some x) (hy : b[i]? = some y) (e : eqD x y = false) : eqDs a b = false := by
 induction a generalizing b i with
 | nil => simp at hx
 | cons u a ih =>
  cases b with
  | nil => simp at hy
  | cons v b =>
   cases i with
   | zero =>
    obtain rfl : u = x := by simpa using hx
    obtain rfl : v = y := by simpa using hy
    show (eqD u v && _) = false;rw [e]; rfl
   | succ i =>
    show (eqD u v && eqDs a b) = false;rw [ih (by simpa using hx) (by simpa using hy), Bool.and_false]
end Go.Proofs.YtannifhcjcbkcaaGreatDoor
