/- Rows of lines in memory, while a program is drawn. Nothing of the program. -/
import Derived.Test.YtbdplcbmfcfigaaDoorDxPlain
import Derived.Test.YtbdplcbmfcfigaaDoorFieldsPlain
namespace Go.Proofs.YtbdplcbmfcfigaaDoor
open Go.RowKit Go.Lib

/-- A line: kind, name, arguments, expression; and the two slice values that stand in its cells. -/
structure LnL where
  kind : Int
  name : ByteArray
  args : List ByteArray
  expr : List TokL
  va : Value
  ve : Value
def lnV (x : LnL) : List Value := [.int .i64 x.kind, .string x.name, x.va, x.ve]
def lnsV (l : List LnL) : List Value := l.flatMap lnV
theorem lnV_length (x : LnL) : (lnV x).length = 4 := rfl
theorem lnsV_length (l : List LnL) : (lnsV l).length = l.length * 4 := by
  induction l with
  | nil => rfl
  | cons t r ih => simp only [lnsV, List.flatMap_cons, List.length_append, lnV_length, List.length_cons] at ih ⊢; omega
theorem lnsV_append (a b : List LnL) : lnsV (a ++ b) = lnsV a ++ lnsV b := by simp [lnsV]
theorem lnsV_one (t : LnL) : lnsV [t] = lnV t := by simp [lnsV]
theorem lnsV_get (l : List LnL) (j i : Nat) (h : j < l.length) (hi : i < 4) : (lnsV l)[j * 4 + i]? = (lnV l[j])[i]? := by
  induction l generalizing j with
  | nil => simp at h
  | cons t r ih =>
    cases j with
    | zero =>
      simp only [lnsV, List.flatMap_cons, Nat.zero_mul, Nat.zero_add, List.getElem_cons_zero]
      rw [List.getElem?_append_left (by rw [lnV_length]; exact hi)]
    | succ j =>
      have e : (j + 1) * 4 + i = 4 + (j * 4 + i) := by omega
      simp only [lnsV, List.flatMap_cons, List.getElem_cons_succ] at ih ⊢
      rw [e, List.getElem?_append_right (by rw [lnV_length]; omega), lnV_length, Nat.add_sub_cancel_left]
      exact ih j (by simpa using h)
theorem owns_lns {B e m : Nat} {w : World} {v : Value} {xs : List Value} {l : List LnL} (h : w.ownsRow B e 4 v m xs) (hl : lnsV l = xs) : w.ownsRow B e 4 v l.length (lnsV l) := by
  have hm : m = l.length := by have := h.1; rw [← hl, lnsV_length] at this; omega
  rw [← hm, hl]; exact h

/-- The line's arguments and its expression lie in memory (TS: strings, TK: tokens). -/
def InMem (TS TK : TypeId) (w : World) (x : LnL) : Prop := w.ownsRow 0 TS 1 x.va x.args.length (strV x.args) ∧ w.ownsRow 0 TK 3 x.ve x.expr.length (toksV x.expr)
def AllIn (TS TK : TypeId) (w : World) (l : List LnL) : Prop := ∀ x ∈ l, InMem TS TK w x
/-- A row is there still where a block of another type has grown. -/
theorem owns_other {B T n s : Nat} {w w' : World} {v : Value} {xs : List Value} {r : Option Nat} (h : w.ownsRow B T s v n xs) (hg : w.grownBy w' r) (hr : ∀ g, r = some g → w.heap.size ≤ g ∨ ∃ cs t, w.heap[g]? = some (.cells cs t (0, 0)) ∧ t ≠ T) : w'.ownsRow B T s v n xs :=
  h.kept hg (by
    rcases h.2 with ⟨rfl, _⟩ | ⟨g, cap, cur, rfl, _, hh, _⟩
    · exact .inl rfl
    · refine .inr fun e => ?_
      have e' : r = some g := by rw [← e]; rfl
      rcases hr g e' with hlt | ⟨cs, t, hb, hne⟩
      · have : g < w.heap.size := by
          rcases Nat.lt_or_ge g w.heap.size with h | h
          · exact h
          · rw [Array.getElem?_eq_none h] at hh; cases hh
        omega
      · rw [hh] at hb
        injection hb with hb
        injection hb with _ ht
        exact hne ht.symm)
theorem owns_base {B T n s : Nat} {w : World} {v : Value} {xs : List Value} (h : w.ownsRow B T s v n xs) : w.ownsRow 0 T s v n xs := by
  refine ⟨h.1, ?_⟩
  rcases h.2 with h | ⟨g, cap, cur, e, _, r⟩
  · exact .inl h
  · exact .inr ⟨g, cap, cur, e, Nat.zero_le _, r⟩
theorem AllIn.other {TS TK : TypeId} {w w' : World} {l : List LnL} {r : Option Nat} (h : AllIn TS TK w l) (hg : w.grownBy w' r) (hr : ∀ g, r = some g → w.heap.size ≤ g ∨ ∃ cs t, w.heap[g]? = some (.cells cs t (0, 0)) ∧ t ≠ TS ∧ t ≠ TK) : AllIn TS TK w' l := by
  intro x hx
  obtain ⟨h1, h2⟩ := h x hx
  exact ⟨owns_other h1 hg (fun g e => (hr g e).imp id (fun ⟨cs, t, a, b, _⟩ => ⟨cs, t, a, b⟩)), owns_other h2 hg (fun g e => (hr g e).imp id (fun ⟨cs, t, a, _, b⟩ => ⟨cs, t, a, b⟩))⟩
theorem AllIn.nil {TS TK : TypeId} {w : World} : AllIn TS TK w [] := fun x hx => by cases hx
theorem AllIn.app {TS TK : TypeId} {w : World} {a b : List LnL} (ha : AllIn TS TK w a) (hb : AllIn TS TK w b) : AllIn TS TK w (a ++ b) := fun x hx => (List.mem_append.1 hx).elim (ha x) (hb x)
theorem AllIn.one {TS TK : TypeId} {w : World} {x : LnL} (h : InMem TS TK w x) : AllIn TS TK w [x] := fun y hy => by rw [List.mem_singleton] at hy; rw [hy]; exact h
/-- The cursor's block, as the others ask it. -/
theorem cur_other {T TS TK : TypeId} {w : World} {c len cap : Nat} {a : Option Addr} {z : List Int} (h : CurAt T w c a len cap z) (h1 : T ≠ TS) (h2 : T ≠ TK) : ∀ g, some c = some g → w.heap.size ≤ g ∨ ∃ cs t, w.heap[g]? = some (.cells cs t (0, 0)) ∧ t ≠ TS ∧ t ≠ TK := by
  intro g e
  injection e with e
  subst e
  obtain ⟨⟨i, h, hb, _⟩, _⟩ := h
  exact .inr ⟨_, _, hb, h1, h2⟩
/-- An owned row's block likewise. -/
theorem own_other {B T n s : Nat} {TS TK : TypeId} {w : World} {v : Value} {xs : List Value} (h : w.ownsRow B T s v n xs) (h1 : T ≠ TS) (h2 : T ≠ TK) : ∀ g, v.ownBlock = some g → w.heap.size ≤ g ∨ ∃ cs t, w.heap[g]? = some (.cells cs t (0, 0)) ∧ t ≠ TS ∧ t ≠ TK := by
  intro g e
  rcases h.2 with ⟨rfl, _⟩ | ⟨g', cap, cur, rfl, _, hh, _⟩
  · simp [Value.ownBlock] at e
  · have : g' = g := by simpa [Value.ownBlock] using e
    subst this
    exact .inr ⟨_, _, hh, h1, h2⟩

/-- What the document asks of a line. -/
def LnOk (x : LnL) : Prop :=
  (x.kind = 0 ∧ nameB x.name = true ∧ (∀ s ∈ x.args, nameB s = true) ∧ x.args.Nodup ∧ x.args.length ≤ 4 ∧ x.expr = []) ∨
  (x.kind = 1 ∧ nameB x.name = true ∧ x.args = [] ∧ exprB x.expr = true) ∨
  ((x.kind = 2 ∨ x.kind = 3 ∨ x.kind = 5 ∨ x.kind = 6) ∧ x.name = ⟨#[]⟩ ∧ x.args = [] ∧ exprB x.expr = true) ∨
  ((x.kind = 4 ∨ x.kind = 7) ∧ x.name = ⟨#[]⟩ ∧ x.args = [] ∧ x.expr = [])
theorem LnOk.expr {x : LnL} (h : LnOk x) : x.expr = [] ∨ exprB x.expr = true := by
  rcases h with h | h | h | h
  · exact .inl h.2.2.2.2.2
  · exact .inr h.2.2.2
  · exact .inr h.2.2.2
  · exact .inl h.2.2.2
/-- The generator's variable: the cursor, the variables, the functions and their arities. -/
def GenAt (TG : TypeId) (c : Nat) (w : World) (g : Nat) (va na aa : Option Addr) (lv ln : List ByteArray) (la : List Int) (vc nc ac : Nat) : Prop :=
  g ≠ c ∧ w.heap[g]? = some (.cells #[.pointer (some ⟨c, 0, none⟩), .slice va lv.length vc, .slice na ln.length nc, .slice aa la.length ac] TG (0, 0)) ∧ TextsAt c w va lv ∧ TextsAt c w na ln ∧ NumsAt c w aa la
theorem GenAt.grown {TG : TypeId} {c : Nat} {w w' : World} {g : Nat} {va na aa : Option Addr} {lv ln : List ByteArray} {la : List Int} {vc nc ac : Nat} (h : GenAt TG c w g va na aa lv ln la vc nc ac) (hg : w.grownBy w' (some c)) : GenAt TG c w' g va na aa lv ln la vc nc ac := by
  obtain ⟨h1, h2, h3, h4, h5⟩ := h
  have hlt : g < w.heap.size := by
    rcases Nat.lt_or_ge g w.heap.size with h | h
    · exact h
    · rw [Array.getElem?_eq_none h] at h2; cases h2
  exact ⟨h1, (hg.block g hlt (fun e => h1 (by injection e))).trans h2, h3.grown hg, h4.grown hg, h5.grown hg⟩
theorem GenAt.cells {TG : TypeId} {c : Nat} {w : World} {g : Nat} {va na aa : Option Addr} {lv ln : List ByteArray} {la : List Int} {vc nc ac : Nat} (h : GenAt TG c w g va na aa lv ln la vc nc ac) :
    w.cell? ⟨g, 0, none⟩ = some (.pointer (some ⟨c, 0, none⟩)) ∧ w.cell? ⟨g, 1, none⟩ = some (.slice va lv.length vc) ∧ w.cell? ⟨g, 2, none⟩ = some (.slice na ln.length nc) ∧ w.cell? ⟨g, 3, none⟩ = some (.slice aa la.length ac) :=
  ⟨by rw [cell_of_row w g 0 _ _ _ h.2.1]; rfl, by rw [cell_of_row w g 1 _ _ _ h.2.1]; rfl, by rw [cell_of_row w g 2 _ _ _ h.2.1]; rfl, by rw [cell_of_row w g 3 _ _ _ h.2.1]; rfl⟩
/-- The lines X that a call has drawn so far, in the row v. -/
def St (T TL TS TK : TypeId) (w0 : World) (c : Nat) (a : Option Addr) (len cap : Nat) (z : List Int) (X : List LnL) (v : Value) (w : World) : Prop :=
  w.ownsRow w0.heap.size TL 4 v X.length (lnsV X) ∧ v ≠ .slice none 0 0 ∧ AllIn TS TK w X ∧ (∀ x ∈ X, LnOk x) ∧ CurAt T w c a len cap z ∧ w0.grownBy w (some c)
section
variable {T TL TS TK : TypeId} {w0 w w' : World} {c len cap : Nat} {a : Option Addr} {z : List Int} {X Y : List LnL} {v v' : Value}
theorem St.far (h : St T TL TS TK w0 c a len cap z X v w) (hc : c < w0.heap.size) (h1 : T ≠ TS) (h2 : T ≠ TK) (hg : w.grownBy w' (some c)) (hk : CurAt T w' c a len cap z) : St T TL TS TK w0 c a len cap z X v w' := by
  obtain ⟨s1, s2, s3, s4, s5, s6⟩ := h
  exact ⟨owns_far s1 hg hc, s2, s3.other hg (cur_other s5 h1 h2), s4, hk, s6.trans hg⟩
theorem St.alloc (h : St T TL TS TK w0 c a len cap z X v w) (o : Obj) : St T TL TS TK w0 c a len cap z X v (w.alloc o) := by
  obtain ⟨s1, s2, s3, s4, s5, s6⟩ := h
  exact ⟨s1.alloc o, s2, s3.other (grown_alloc' w o none) (fun g e => by cases e), s4, s5.alloc o, grown_alloc s6 o⟩
theorem St.app (h : St T TL TS TK w0 c a len cap z X v w) (hc : c < w0.heap.size) (h1 : TL ≠ TS) (h2 : TL ≠ TK) {m : Nat} (hY : AllIn TS TK w Y) (hok : ∀ x ∈ Y, LnOk x) (hg : w.grownBy w' v.ownBlock) (ho : w'.ownsRow w0.heap.size TL 4 v' (X.length + m) (lnsV X ++ lnsV Y)) (hv : v' ≠ .slice none 0 0) :
    St T TL TS TK w0 c a len cap z (X ++ Y) v' w' := by
  obtain ⟨s1, s2, s3, s4, s5, s6⟩ := h
  have hlt := fun g e => (s1.lt g e).1
  refine ⟨owns_lns ho (lnsV_append X Y), hv, ?_, ?_, s5.kept hg (fun g e => by have := hlt g e; omega), grown_new s6 hg hlt⟩
  · exact (s3.app hY).other hg (own_other s1 h1 h2)
  · intro x hx
    rcases List.mem_append.1 hx with hx | hx
    · exact s4 x hx
    · exact hok x hx
theorem St.form (h : St T TL TS TK w0 c a len cap z X v w) : ∃ g cc, v = .slice (some ⟨g, 0, none⟩) X.length cc ∧ g < w.heap.size ∧ (∀ j u, (lnsV X)[j]? = some u → w.cell? ((⟨g, 0, none⟩ : Addr).add j) = some u) := by
  obtain ⟨s1, s2, _⟩ := h
  rcases s1.2 with ⟨e, _⟩ | ⟨g, cap, cur, rfl, hB, hg, _⟩
  · exact absurd e s2
  · exact ⟨g, cap, rfl, (s1.lt g rfl).2, s1.cells rfl⟩
theorem St.zero (hk : CurAt T w0 c a len cap z) : St T TL TS TK w0 c a len cap z [] (.slice (some ⟨w0.heap.size, 0, none⟩) 0 0) (w0.alloc (.cells #[] TL)) :=
  ⟨World.ownsRow_lit w0 #[] 0 (Nat.le_refl _) (by decide) rfl, (fun e => by injection e with e; cases e), AllIn.nil, (fun x hx => by cases hx), hk.alloc _, grown_alloc (World.grownBy.refl _ _) _⟩
end
/-- Lines were drawn. -/
def DrawL (T TL TS TK : TypeId) (m : Nat) (c : Nat) (a : Option Addr) (len cap : Nat) (z : List Int) (w : World) (e : Ending) (w' : World) : Prop :=
  ∃ v X, e = .returned v ∧ St T TL TS TK w c a len cap z X v w' ∧ X.length ≤ m
theorem lnV_one (x : LnL) (ha : x.va.oneCell' = true) (he : x.ve.oneCell' = true) : ∀ u ∈ lnV x, u.oneCell' = true := by
  intro u hu
  simp only [lnV, List.mem_cons, List.not_mem_nil, or_false] at hu
  rcases hu with rfl | rfl | rfl | rfl
  · rfl
  · rfl
  · exact ha
  · exact he
theorem ln_new (w : World) (k : Int) (nm : ByteArray) (va ve : Value) (args : List ByteArray) (ex : List TokL) (T : TypeId) : ∀ j u, (lnV ⟨k, nm, args, ex, va, ve⟩)[j]? = some u → (w.alloc (.cells #[.int .i64 k, .string nm, va, ve] T)).cell? ((⟨w.heap.size, 0, none⟩ : Addr).add j) = some u :=
  World.news_of_block (cs := (lnV ⟨k, nm, args, ex, va, ve⟩).toArray) (t := T) (fr := (0, 0)) (heap_alloc_new w _)
theorem owned_one {B T n s : Nat} {w : World} {v : Value} {xs : List Value} (h : w.ownsRow B T s v n xs) : v.oneCell' = true := by
  rcases h.2 with ⟨rfl, _⟩ | ⟨g, cap, cur, rfl, _⟩ <;> rfl
theorem lnsV_all {TS TK : TypeId} {w : World} {X : List LnL} (h : AllIn TS TK w X) : ∀ u ∈ lnsV X, u.oneCell' = true := by
  intro u hu
  unfold lnsV at hu
  obtain ⟨x, hx, hu⟩ := List.mem_flatMap.1 hu
  exact lnV_one x (owned_one (h x hx).1) (owned_one (h x hx).2) u hu
/-- How many lines a round of a body may draw. -/
def bdL : Nat → Nat
  | 0 => 1
  | d + 1 => 3 + 3 * bdL d
/-- An operator, the variable i, a number. -/
def threeL (k x : Int) : List TokL := [⟨k, 0, ⟨#[]⟩⟩, ⟨1, 0, ⟨#[105]⟩⟩, ⟨0, x, ⟨#[]⟩⟩]
theorem nameI : nameB ⟨#[105]⟩ = true := by decide
theorem three_ok (k x : Int) (h2 : 2 ≤ k) (h6 : k ≤ 6) (h0 : 0 ≤ x) (h9 : x ≤ 999) : exprB (threeL k x) = true := by
  have hb : tokB ⟨k, 0, ⟨#[]⟩⟩ = true := by
    rw [tokB_op _ _ _ (by omega) (by omega) (by omega), decide_eq_true h2, decide_eq_true h6]
    rfl
  have ha : arZ ⟨k, 0, ⟨#[]⟩⟩ = ((2 : Nat) : Int) := arZ_op _ _ _ hb (by omega) (by omega) (by omega)
  have hv := varTok ⟨#[105]⟩ nameI
  have hn := numTok x h0 h9
  exact expr_of (threeL k x) (part_app (a := [⟨k, 0, ⟨#[]⟩⟩, ⟨1, 0, ⟨#[105]⟩⟩]) (part_app (a := [⟨k, 0, ⟨#[]⟩⟩]) (part_head _ 2 hb ha) (part_head _ 0 hv.1 hv.2)) (part_head _ 0 hn.1 hn.2)) (by simp [threeL])
theorem three_own (w : World) (k x : Int) (T : TypeId) : (w.alloc (.cells #[.int .i64 k, .int .i64 0, .string ⟨#[]⟩, .int .i64 1, .int .i64 0, .string ⟨#[105]⟩, .int .i64 0, .int .i64 x, .string ⟨#[]⟩] T)).ownsRow 0 T 3 (.slice (some ⟨w.heap.size, 0, none⟩) 3 3) (threeL k x).length (toksV (threeL k x)) :=
  World.ownsRow_lit w #[.int .i64 k, .int .i64 0, .string ⟨#[]⟩, .int .i64 1, .int .i64 0, .string ⟨#[105]⟩, .int .i64 0, .int .i64 x, .string ⟨#[]⟩] 3 (Nat.zero_le _) (by decide) rfl
theorem ln_new' (w : World) (o : Obj) (k : Int) (nm : ByteArray) (va ve : Value) (args : List ByteArray) (ex : List TokL) (T : TypeId) : ∀ j u, (lnV ⟨k, nm, args, ex, va, ve⟩)[j]? = some u → ((w.alloc o).alloc (.cells #[.int .i64 k, .string nm, va, ve] T)).cell? ((⟨w.heap.size + 1, 0, none⟩ : Addr).add j) = some u := by
  have h := ln_new (w.alloc o) k nm va ve args ex T
  rw [show (w.alloc o).heap.size = w.heap.size + 1 from by simp] at h
  exact h
end Go.Proofs.YtbdplcbmfcfigaaDoor
