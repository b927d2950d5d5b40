/- Rows of images in memory, plain. Nothing of the program. -/
import Derived.Test.YtakgjlpgcepnkaaGreatI02
namespace Go.Proofs.YtakgjlpgcepnkaaGreat
open Go.RowKit Go.Lib Go.ChangeShapes Go.WideShapes Go.Deep

/-- An image in memory: its bytes, its symbols and where these are. -/
structure ImA where
  s : ByteArray
  l : List SyL
  a : Option Addr
  c : Nat
def imV (x : ImA) : List Value := [.string x.s, .slice x.a x.l.length x.c]
def imsV (l : List ImA) : List Value := l.flatMap imV
theorem imV_length (x : ImA) : (imV x).length = 2 := rfl
theorem imsV_length (l : List ImA) : (imsV l).length = l.length * 2 := by
  induction l with
  | nil => rfl
  | cons t r ih => simp only [imsV, List.flatMap_cons, List.length_append, imV_length, List.length_cons] at ih ⊢; omega
theorem imsV_append (a b : List ImA) : imsV (a ++ b) = imsV a ++ imsV b := by simp [imsV]
theorem imsV_one (t : ImA) : imsV [t] = imV t := by simp [imsV]
theorem imsV_get (l : List ImA) (j i : Nat) (h : j < l.length) (hi : i < 2) : (imsV l)[j * 2 + i]? = (imV l[j])[i]? := by
  induction l generalizing j with
  | nil => simp at h
  | cons t r ih =>
    cases j with
    | zero =>
      simp only [imsV, List.flatMap_cons, Nat.zero_mul, Nat.zero_add, List.getElem_cons_zero]
      rw [List.getElem?_append_left (by rw [imV_length]; exact hi)]
    | succ j =>
      have e : (j + 1) * 2 + i = 2 + (j * 2 + i) := by omega
      simp only [imsV, List.flatMap_cons, List.getElem_cons_succ] at ih ⊢
      rw [e, List.getElem?_append_right (by rw [imV_length]; omega), imV_length, Nat.add_sub_cancel_left]
      exact ih j (by simpa using h)
theorem imsV_set (X : List ImA) (k : Nat) (hk : X.length = k) (x : ImA) (a b : Value) (R : List Value) :
    ((imsV X ++ a :: b :: R).set (k * 2) (.string x.s)).set (k * 2 + 1) (.slice x.a x.l.length x.c) = imsV (X ++ [x]) ++ R := by
  have hl : (imsV X).length = k * 2 := by rw [imsV_length, hk]
  rw [List.set_append_right _ _ (by omega), List.set_append_right _ _ (by omega), hl, Nat.sub_self, Nat.add_sub_cancel_left, imsV_append, imsV_one, List.append_assoc]
  rfl
theorem twoV (R : List Value) (n : Nat) (h : R.length = (n + 1) * 2) : ∃ a b R', R = a :: b :: R' ∧ R'.length = n * 2 := by
  match R, h with
  | [], h => simp at h
  | [_], h => simp at h; omega
  | a :: b :: R', h => exact ⟨a, b, R', rfl, by simp at h; omega⟩

/-- What a call may read of a row of images. -/
def ReadIms (w : World) (a : Option Addr) (X : List ImA) : Prop :=
  ∀ j (h : j < X.length), ∃ g, a = some ⟨g, 0, none⟩ ∧ g < w.heap.size ∧ w.cell? ⟨g, j * 2, none⟩ = some (.string X[j].s) ∧ w.cell? ⟨g, j * 2 + 1, none⟩ = some (.slice X[j].a X[j].l.length X[j].c) ∧ ReadSy w X[j].a X[j].l
theorem ReadIms.below {w w' : World} {a : Option Addr} {X : List ImA} (h : ReadIms w a X) (hb : Below w.heap.size w w') : ReadIms w' a X := by
  intro j hj
  obtain ⟨g, e, hg, c0, c1, c2⟩ := h j hj
  exact ⟨g, e, Nat.lt_of_lt_of_le hg hb.size, (hb.cell (p := ⟨g, _, none⟩) hg).trans c0, (hb.cell (p := ⟨g, _, none⟩) hg).trans c1, c2.below hb⟩
/-- Each image's symbols in a row of their own. -/
def MadeG (TS B : Nat) (w : World) (X : List ImA) : Prop := ∀ x ∈ X, w.ownsRow B TS 3 (.slice x.a x.l.length x.c) x.l.length (sysV x.l)
theorem MadeG.nil (TS B : Nat) (w : World) : MadeG TS B w [] := fun _ h => by simp at h
theorem MadeG.below {TS B : Nat} {w w' : World} {X : List ImA} (h : MadeG TS B w X) (hb : Below w.heap.size w w') : MadeG TS B w' X := fun x hx => owns3_below (h x hx) hb
theorem MadeG.snoc {TS B : Nat} {w : World} {X : List ImA} {x : ImA} (h : MadeG TS B w X) (hx : w.ownsRow B TS 3 (.slice x.a x.l.length x.c) x.l.length (sysV x.l)) : MadeG TS B w (X ++ [x]) := fun y hy => by
  rcases List.mem_append.1 hy with hy | hy
  · exact h y hy
  · obtain rfl : y = x := by simpa using hy
    exact hx
theorem MadeG.grown {TS TL B : Nat} {w w' : World} {X : List ImA} {g : Nat} (h : MadeG TS B w X) (hg : w.grownBy w' (some g)) (hr : ∃ cs, w.heap[g]? = some (.cells cs TL (0, 0))) (h1 : TL ≠ TS) : MadeG TS B w' X := fun x hx =>
  owns_other (h x hx) hg (fun k e => by
    injection e with e
    subst e
    obtain ⟨cs, hc⟩ := hr
    exact .inr ⟨cs, _, hc, h1⟩)
theorem readIms_of {B T TS B' c : Nat} {w : World} {a : Option Addr} {X : List ImA} (h : w.ownsRow B T 2 (.slice a X.length c) X.length (imsV X)) (hA : MadeG TS B' w X) : ReadIms w a X := by
  intro j hj
  rcases h.2 with ⟨he, h0⟩ | ⟨g, cap, cur, he, hB, hg, _⟩
  · omega
  · have ha : a = some ⟨g, 0, none⟩ := by injection he
    subst ha
    have hlt : g < w.heap.size := by
      rcases Nat.lt_or_ge g w.heap.size with h | h
      · exact h
      · rw [Array.getElem?_eq_none h] at hg; cases hg
    refine ⟨g, rfl, hlt, ?_, ?_, readSy_of (hA _ (List.getElem_mem hj))⟩
    · rw [h.cellAt _ (by omega)]; exact imsV_get X j 0 hj (by omega)
    · rw [h.cellAt _ (by omega)]; exact imsV_get X j 1 hj (by omega)

/-- A row of images that came in. -/
def ArgIm (w : World) (x : ImA) : Prop := ArgSy w x.a x.l ∧ x.l.length ≤ maxLen ∧ x.s.size ≤ maxLen
theorem ArgIm.below {w w' : World} {x : ImA} (h : ArgIm w x) (hb : Below w.heap.size w w') : ArgIm w' x := ⟨h.1.below hb, h.2⟩
def ArgIms (w : World) (a : Option Addr) (l : List ImA) : Prop :=
  ∀ j (h : j < l.length), ∃ x, a = some x ∧ x.block < w.heap.size ∧ w.cell? (x.add (j * 2)) = some (.string l[j].s) ∧ w.cell? ⟨(x.add (j * 2)).block, (x.add (j * 2)).off + 1, none⟩ = some (.slice l[j].a l[j].l.length l[j].c) ∧ ArgIm w l[j]
theorem ArgIms.below {w w' : World} {a : Option Addr} {l : List ImA} (h : ArgIms w a l) (hb : Below w.heap.size w w') : ArgIms w' a l := by
  intro j hj
  obtain ⟨x, e, hx, c0, c1, r⟩ := h j hj
  exact ⟨x, e, Nat.lt_of_lt_of_le hx hb.size, (hb.cell (by rw [addr_block]; exact hx)).trans c0, (hb.cell (p := ⟨_, _, none⟩) (by rw [addr_block]; exact hx)).trans c1, r.below hb⟩
section
variable {H : Type} {enc : TypeId × Value → H} {P : Program} {w : World} {base : Nat} {spare : Nat → Bool} {held : Bool}
theorem argIms_of {t e eA : TypeId} {k0 k1 f0 f1 f2 : Field} {a : Option Addr} {len cap : Nat} {d : DataW H} {p : List MemPlace}
    (ht : P.underlying t = some (.slice e)) (he : P.underlying e = some (.struct #[k0, k1])) (hk : oneCellFields P #[k0, k1] = true) (hC : P.cellsOf e = 2)
    (hS : P.underlying k0.type = some .string) (hA : P.underlying k1.type = some (.slice eA)) (heA : P.underlying eA = some (.struct #[f0, f1, f2])) (hone : oneCellFields P #[f0, f1, f2] = true) (hCE : P.cellsOf eA = 3) (g0 : P.underlying f0.type = some .string) (g1 : P.underlying f1.type = some (.int .i64)) (g2 : P.underlying f2.type = some (.int .i64))
    (h : DataW.Trod enc P w 0 (fun _ => true) held t (.slice a len cap) d p) : ∃ l : List ImA, l.length = len ∧ len ≤ maxLen ∧ ArgIms w a l := by
  obtain ⟨fuel, hf⟩ := h
  rcases open_fields ht he hk hC hf with hcs | ⟨x, len', cap', m, hcs, hl, hm, rfl, hi⟩
  · simp [Value.cells] at hcs
    obtain ⟨rfl, rfl, rfl⟩ := hcs
    exact ⟨[], rfl, by simp [maxLen], fun j hj => absurd hj (by simp)⟩
  · simp [Value.cells] at hcs
    obtain ⟨rfl, rfl, rfl⟩ := hcs
    obtain ⟨l, hll, hq⟩ := list_of len (fun j (t : ImA) => w.cell? (x.add (j * 2)) = some (.string t.s) ∧ w.cell? ⟨(x.add (j * 2)).block, (x.add (j * 2)).off + 1, none⟩ = some (.slice t.a t.l.length t.c) ∧ ArgIm w t) (fun j hj => by
      obtain ⟨n, hn⟩ := hi j (by omega)
      obtain ⟨v0, y0, c0, t0⟩ := hn 0 k0 rfl
      obtain ⟨v1, y1, c1, t1⟩ := hn 1 k1 rfl
      obtain ⟨s, e0, _, w0⟩ := DataW.trod_string hS t0
      injection e0 with e0
      subst e0
      obtain ⟨b, c, q, rfl, hq, hr⟩ := argSy_at hA heA hone hCE g0 g1 g2 t1
      exact ⟨⟨s, q, b, c⟩, c0, (add_in x (j * 2) 0) ▸ c1, hr, hq, w0⟩)
    exact ⟨l, hll, by omega, fun j hj => ⟨x, rfl, by have := World.block_lt_of_cell? w _ (hq j hj).1; rw [addr_block] at this; exact this, hq j hj⟩⟩
theorem argIms_at {t e eA : TypeId} {k0 k1 f0 f1 f2 : Field} {v : Value} {fuel : Nat} {y : DataW H × List MemPlace}
    (ht : P.underlying t = some (.slice e)) (he : P.underlying e = some (.struct #[k0, k1])) (hk : oneCellFields P #[k0, k1] = true) (hC : P.cellsOf e = 2)
    (hS : P.underlying k0.type = some .string) (hA : P.underlying k1.type = some (.slice eA)) (heA : P.underlying eA = some (.struct #[f0, f1, f2])) (hone : oneCellFields P #[f0, f1, f2] = true) (hCE : P.cellsOf eA = 3) (g0 : P.underlying f0.type = some .string) (g1 : P.underlying f1.type = some (.int .i64)) (g2 : P.underlying f2.type = some (.int .i64))
    (h : DataW.trod enc P w 0 (fun _ => true) held fuel t [v] = some y) : ∃ (a : Option Addr) (c : Nat) (l : List ImA), v = .slice a l.length c ∧ l.length ≤ maxLen ∧ ArgIms w a l := by
  have hv : ∃ a n c, v = .slice a n c := by
    rcases open_slice ht h with h0 | ⟨a, len, cap, m, n, D, Pl, hcs, _⟩
    · have := h0.1; simp at this; exact ⟨_, _, _, this⟩
    · simp at hcs; exact ⟨_, _, _, hcs⟩
  obtain ⟨a, n, c, rfl⟩ := hv
  obtain ⟨l, hl, hm, ha⟩ := argIms_of (d := y.1) (p := y.2) ht he hk hC hS hA heA hone hCE g0 g1 g2 ⟨fuel, by simpa [Value.cells] using h⟩
  subst hl
  exact ⟨a, c, l, rfl, hm, ha⟩
end
/-- Small enough for all that is made of it. -/
def SmallI (x : ImA) : Prop := x.s.size ≤ 1048576 ∧ x.l.length ≤ 1048576 ∧ ∀ y ∈ x.l, y.name.size ≤ 1048576
/-- Without the addresses. -/
def psI (l : List ImA) : List (ByteArray × List SyL) := l.map fun x => (x.s, x.l)
theorem psI_next (l : List ImA) (k : Nat) (h : k < l.length) : psI (l.take (k + 1)) = psI (l.take k) ++ [(l[k].s, l[k].l)] := by
  rw [List.take_succ_eq_append_getElem h]
  unfold psI
  rw [List.map_append]
  rfl
theorem psI_len (l : List ImA) : (psI l).length = l.length := by simp [psI]
theorem psI_get (l : List ImA) (k : Nat) (h : k < l.length) : (psI l)[k]? = some (l[k].s, l[k].l) := by simp [psI, h]
theorem psI_small {X l : List ImA} (h : psI X = psI l) (hs : ∀ x ∈ l, SmallI x) : ∀ x ∈ X, SmallI x := by
  intro x hx
  have hm : (x.s, x.l) ∈ psI l := by rw [← h]; exact List.mem_map.2 ⟨x, hx, rfl⟩
  obtain ⟨y, hy, e⟩ := List.mem_map.1 hm
  injection e with e1 e2
  have := hs y hy
  unfold SmallI at this ⊢
  rw [← e1, ← e2]
  exact this
end Go.Proofs.YtakgjlpgcepnkaaGreat
