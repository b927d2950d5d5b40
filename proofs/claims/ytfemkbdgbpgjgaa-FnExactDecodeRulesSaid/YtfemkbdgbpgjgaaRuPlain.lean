/- Rows of rules, plain. Nothing of the program. -/
import Derived.Test.YtfemkbdgbpgjgaaRunMem
namespace Go.Proofs.Ytfemkbdgbpgjgaa
open Go.RowKit Go.Lib Go.ChangeShapes Go.WideShapes Go.Deep

structure RuL where
  start : Int
  stop : Int
  frame : Bool
  depth : Int
def ruV (t : RuL) : List Value := [.int .i64 t.start, .int .i64 t.stop, .bool t.frame, .int .i64 t.depth]
def rusV (l : List RuL) : List Value := l.flatMap ruV
theorem rusV_length (l : List RuL) : (rusV l).length = l.length * 4 := by
  induction l with
  | nil => rfl
  | cons t r ih => simp only [rusV, List.flatMap_cons, List.length_append, List.length_cons] at ih ⊢; rw [ih, show (ruV t).length = 4 from rfl]; omega
theorem rusV_append (a b : List RuL) : rusV (a ++ b) = rusV a ++ rusV b := by simp [rusV]
theorem rusV_one (t : RuL) : rusV [t] = ruV t := by simp [rusV]
theorem rusV_get (l : List RuL) (j i : Nat) (h : j < l.length) (hi : i < 4) : (rusV l)[j * 4 + i]? = (ruV l[j])[i]? := by
  induction l generalizing j with
  | nil => simp at h
  | cons t r ih =>
    cases j with
    | zero =>
      simp only [rusV, List.flatMap_cons, Nat.zero_mul, Nat.zero_add, List.getElem_cons_zero]
      rw [List.getElem?_append_left (show i < 4 from hi)]
    | succ j =>
      have e : (j + 1) * 4 + i = 4 + (j * 4 + i) := by omega
      simp only [rusV, List.flatMap_cons, List.getElem_cons_succ] at ih ⊢
      rw [e, List.getElem?_append_right (show (ruV t).length ≤ 4 + (j * 4 + i) by rw [show (ruV t).length = 4 from rfl]; omega), show (ruV t).length = 4 from rfl, Nat.add_sub_cancel_left]
      exact ih j (by simpa using h)
/-- What a call may read of a row of rules. -/
def ReadRu (w : World) (a : Option Addr) (l : List RuL) : Prop :=
  ∀ j (h : j < l.length), ∃ g, a = some ⟨g, 0, none⟩ ∧ g < w.heap.size ∧ w.cell? ⟨g, j * 4, none⟩ = some (.int .i64 l[j].start) ∧ w.cell? ⟨g, j * 4 + 1, none⟩ = some (.int .i64 l[j].stop) ∧ w.cell? ⟨g, j * 4 + 2, none⟩ = some (.bool l[j].frame) ∧ w.cell? ⟨g, j * 4 + 3, none⟩ = some (.int .i64 l[j].depth)
theorem readRu_of {B T c : Nat} {w : World} {a : Option Addr} {l : List RuL} (h : w.ownsRow B T 4 (.slice a l.length c) l.length (rusV l)) : ReadRu w a l := by
  intro j hj
  rcases h.2 with ⟨he, h0⟩ | ⟨g, cap, cur, he, hB, hg, _⟩
  · omega
  · have ha : a = some ⟨g, 0, none⟩ := by injection he
    subst ha
    have hlt : g < w.heap.size := by
      rcases Nat.lt_or_ge g w.heap.size with h | h
      · exact h
      · rw [Array.getElem?_eq_none h] at hg; cases hg
    refine ⟨g, rfl, hlt, ?_, ?_, ?_, ?_⟩
    · rw [h.cellAt _ (by omega)]; exact rusV_get l j 0 hj (by omega)
    · rw [h.cellAt _ (by omega)]; exact rusV_get l j 1 hj (by omega)
    · rw [h.cellAt _ (by omega)]; exact rusV_get l j 2 hj (by omega)
    · rw [h.cellAt _ (by omega)]; exact rusV_get l j 3 hj (by omega)
theorem ReadRu.below {w w' : World} {a : Option Addr} {l : List RuL} (h : ReadRu w a l) (hb : Below w.heap.size w w') : ReadRu w' a l := by
  intro j hj
  obtain ⟨g, e, hg, c0, c1, c2, c3⟩ := h j hj
  exact ⟨g, e, Nat.lt_of_lt_of_le hg hb.size, (hb.cell (p := ⟨g, _, none⟩) hg).trans c0, (hb.cell (p := ⟨g, _, none⟩) hg).trans c1, (hb.cell (p := ⟨g, _, none⟩) hg).trans c2, (hb.cell (p := ⟨g, _, none⟩) hg).trans c3⟩
theorem ReadRu.drewN {w : World} {a : Option Addr} {l : List RuL} (h : ReadRu w a l) (n : Nat) : ReadRu (w.drewN n) a l := h
/-- What a function returns that makes a row of rules, in a row of its own from block B on. -/
def RuRow (T B : Nat) (l : List RuL) (w : World) (e : Ending) (w' : World) : Prop :=
  ∃ v, e = .returned v ∧ w'.ownsRow B T 4 v l.length (rusV l) ∧ Below w.heap.size w w'
def headRu (k : Nat) (l : List RuL) (R : List Value) : List Value := rusV (l.take k) ++ R
theorem headRu_set (k : Nat) (l : List RuL) (h : k < l.length) (y0 y1 y2 y3 : Value) (R : List Value) :
    ((((headRu k l (y0 :: y1 :: y2 :: y3 :: R)).set (k * 4) (.int .i64 l[k].start)).set (k * 4 + 1) (.int .i64 l[k].stop)).set (k * 4 + 2) (.bool l[k].frame)).set (k * 4 + 3) (.int .i64 l[k].depth) = headRu (k + 1) l R := by
  have hl : (rusV (l.take k)).length = k * 4 := by rw [rusV_length, List.length_take]; omega
  have e : rusV (l.take (k + 1)) = rusV (l.take k) ++ ruV l[k] := by
    rw [List.take_succ_eq_append_getElem h, rusV_append, rusV_one]
  unfold headRu
  rw [e, List.set_append_right _ _ (by omega), List.set_append_right _ _ (by omega), List.set_append_right _ _ (by omega), List.set_append_right _ _ (by omega), hl, List.append_assoc]
  congr 1
  rw [Nat.sub_self, Nat.add_sub_cancel_left, Nat.add_sub_cancel_left, Nat.add_sub_cancel_left]
  rfl
theorem cutRu (R : List Value) (n : Nat) (h : R.length = (n + 1) * 4) : ∃ y0 y1 y2 y3 R', R = y0 :: y1 :: y2 :: y3 :: R' ∧ R'.length = n * 4 := by
  rcases R with _ | ⟨y0, _ | ⟨y1, _ | ⟨y2, _ | ⟨y3, R'⟩⟩⟩⟩
  all_goals first
    | (exfalso; simp only [List.length_nil, List.length_cons] at h; omega)
    | exact ⟨y0, y1, y2, y3, R', rfl, by simp only [List.length_cons] at h; omega⟩
/-- A row of rules that came in. -/
def ArgRu (w : World) (a : Option Addr) (l : List RuL) : Prop :=
  ∀ j (h : j < l.length), ∃ x, a = some x ∧ x.block < w.heap.size ∧ w.cell? (x.add (j * 4)) = some (.int .i64 l[j].start) ∧ w.cell? ⟨(x.add (j * 4)).block, (x.add (j * 4)).off + 1, none⟩ = some (.int .i64 l[j].stop) ∧ w.cell? ⟨(x.add (j * 4)).block, (x.add (j * 4)).off + 2, none⟩ = some (.bool l[j].frame) ∧ w.cell? ⟨(x.add (j * 4)).block, (x.add (j * 4)).off + 3, none⟩ = some (.int .i64 l[j].depth) ∧
    (Lit.int .i64 l[j].start).wf = true ∧ (Lit.int .i64 l[j].stop).wf = true ∧ (Lit.int .i64 l[j].depth).wf = true
theorem ArgRu.below {w w' : World} {a : Option Addr} {l : List RuL} (h : ArgRu w a l) (hb : Below w.heap.size w w') : ArgRu w' a l := by
  intro j hj
  obtain ⟨x, e, hx, c0, c1, c2, c3, r⟩ := h j hj
  exact ⟨x, e, Nat.lt_of_lt_of_le hx hb.size, (hb.cell (by rw [addr_block]; exact hx)).trans c0, (hb.cell (p := ⟨_, _, none⟩) (by rw [addr_block]; exact hx)).trans c1, (hb.cell (p := ⟨_, _, none⟩) (by rw [addr_block]; exact hx)).trans c2, (hb.cell (p := ⟨_, _, none⟩) (by rw [addr_block]; exact hx)).trans c3, r⟩
section
variable {H : Type} {enc : TypeId × Value → H} {P : Program} {w : World} {base : Nat} {spare : Nat → Bool} {held : Bool}
theorem argRu_of {t e : TypeId} {f0 f1 f2 f3 : Field} {a : Option Addr} {len cap : Nat} {d : DataW H} {p : List MemPlace} (ht : P.underlying t = some (.slice e)) (he : P.underlying e = some (.struct #[f0, f1, f2, f3]))
    (hone : oneCellFields P #[f0, f1, f2, f3] = true) (hC : P.cellsOf e = 4) (h0 : P.underlying f0.type = some (.int .i64)) (h1 : P.underlying f1.type = some (.int .i64)) (h2 : P.underlying f2.type = some .bool) (h3 : P.underlying f3.type = some (.int .i64))
    (h : DataW.Trod enc P w 0 (fun _ => true) held t (.slice a len cap) d p) : ∃ l : List RuL, l.length = len ∧ len ≤ maxLen ∧ ArgRu w a l := by
  obtain ⟨fuel, hf⟩ := h
  rcases open_fields ht he hone hC hf with hcs | ⟨x, len', cap', m, hcs, hl, hm, rfl, hi⟩
  · simp [Value.cells] at hcs
    obtain ⟨rfl, rfl, rfl⟩ := hcs
    exact ⟨[], rfl, by simp [maxLen], fun j hj => absurd hj (by simp)⟩
  · simp [Value.cells] at hcs
    obtain ⟨rfl, rfl, rfl⟩ := hcs
    obtain ⟨l, hll, hq⟩ := list_of len (fun j (t : RuL) => w.cell? (x.add (j * 4)) = some (.int .i64 t.start) ∧ w.cell? ⟨(x.add (j * 4)).block, (x.add (j * 4)).off + 1, none⟩ = some (.int .i64 t.stop) ∧ w.cell? ⟨(x.add (j * 4)).block, (x.add (j * 4)).off + 2, none⟩ = some (.bool t.frame) ∧ w.cell? ⟨(x.add (j * 4)).block, (x.add (j * 4)).off + 3, none⟩ = some (.int .i64 t.depth) ∧ (Lit.int .i64 t.start).wf = true ∧ (Lit.int .i64 t.stop).wf = true ∧ (Lit.int .i64 t.depth).wf = true) (fun j hj => by
      obtain ⟨n, hn⟩ := hi j (by omega)
      obtain ⟨v0, y0, c0, t0⟩ := hn 0 f0 rfl
      obtain ⟨v1, y1, c1, t1⟩ := hn 1 f1 rfl
      obtain ⟨v2, y2, c2, t2⟩ := hn 2 f2 rfl
      obtain ⟨v3, y3, c3, t3⟩ := hn 3 f3 rfl
      obtain ⟨k0, e0, _, w0⟩ := DataW.trod_int h0 t0
      obtain ⟨k1, e1, _, w1⟩ := DataW.trod_int h1 t1
      obtain ⟨k2, e2, _⟩ := DataW.trod_bool h2 t2
      obtain ⟨k3, e3, _, w3⟩ := DataW.trod_int h3 t3
      injection e0 with e0; injection e1 with e1; injection e2 with e2; injection e3 with e3
      subst e0 e1 e2 e3
      exact ⟨⟨k0, k1, k2, k3⟩, c0, (add_in x (j * 4) 0) ▸ c1, (add_in x (j * 4) 1) ▸ c2, (add_in x (j * 4) 2) ▸ c3, w0, w1, w3⟩)
    exact ⟨l, hll, by omega, fun j hj => ⟨x, rfl, by have := World.block_lt_of_cell? w _ (hq j hj).1; rw [addr_block] at this; exact this, hq j hj⟩⟩
end
/-- The marks. -/
def mkRu1 (m j : Nat) : RuL := ⟨(m : Int) + 4 * (j : Int), (m : Int) + 4 * (j : Int) + 1, ((m : Int) + 4 * (j : Int) + 1 + 1) % 3 == 0, (m : Int) + 4 * (j : Int) + 1 + 1 + 1⟩
def mkRu (m n : Nat) : List RuL := (List.range n).map (mkRu1 m)
theorem mkRu_length (m n : Nat) : (mkRu m n).length = n := by simp [mkRu]
theorem mkRu_get (m n j : Nat) (h : j < (mkRu m n).length) : (mkRu m n)[j] = mkRu1 m j := by simp [mkRu]
end Go.Proofs.Ytfemkbdgbpgjgaa
