/- Rows of symbols, and images, plain. Nothing of the program. -/
import Derived.Test.YtljmkkodhnkemaaPlainC
import Derived.Test.YtljmkkodhnkemaaOpPlain
namespace Go.Proofs.Ytljmkkodhnkemaa
open Go.RowKit Go.Lib Go.ChangeShapes Go.WideShapes Go.Deep

/-- A symbol: its name, where it begins, how many bytes it has. -/
structure SyL where
  name : ByteArray
  start : Int
  size : Int
def syV (t : SyL) : List Value := [.string t.name, .int .i64 t.start, .int .i64 t.size]
def sysV (l : List SyL) : List Value := l.flatMap syV
theorem syV_length (t : SyL) : (syV t).length = 3 := rfl
theorem sysV_length (l : List SyL) : (sysV l).length = l.length * 3 := by
  induction l with
  | nil => rfl
  | cons t r ih => simp only [sysV, List.flatMap_cons, List.length_append, syV_length, List.length_cons] at ih ⊢; omega
theorem sysV_append (a b : List SyL) : sysV (a ++ b) = sysV a ++ sysV b := by simp [sysV]
theorem sysV_one (t : SyL) : sysV [t] = syV t := by simp [sysV]
theorem sysV_get (l : List SyL) (j i : Nat) (h : j < l.length) (hi : i < 3) : (sysV l)[j * 3 + i]? = (syV l[j])[i]? := by
  induction l generalizing j with
  | nil => simp at h
  | cons t r ih =>
    cases j with
    | zero =>
      simp only [sysV, List.flatMap_cons, Nat.zero_mul, Nat.zero_add, List.getElem_cons_zero]
      rw [List.getElem?_append_left (by rw [syV_length]; exact hi)]
    | succ j =>
      have e : (j + 1) * 3 + i = 3 + (j * 3 + i) := by omega
      simp only [sysV, List.flatMap_cons, List.getElem_cons_succ] at ih ⊢
      rw [e, List.getElem?_append_right (by rw [syV_length]; omega), syV_length, Nat.add_sub_cancel_left]
      exact ih j (by simpa using h)

/-- What a call may read of a row of symbols: its j-th element. -/
def ReadSy (w : World) (a : Option Addr) (l : List SyL) : Prop :=
  ∀ j (h : j < l.length), ∃ g, a = some ⟨g, 0, none⟩ ∧ g < w.heap.size ∧ w.cell? ⟨g, j * 3, none⟩ = some (.string l[j].name) ∧ w.cell? ⟨g, j * 3 + 1, none⟩ = some (.int .i64 l[j].start) ∧ w.cell? ⟨g, j * 3 + 2, none⟩ = some (.int .i64 l[j].size)
theorem readSy_of {B T c : Nat} {w : World} {a : Option Addr} {l : List SyL} (h : w.ownsRow B T 3 (.slice a l.length c) l.length (sysV l)) : ReadSy w a l := by
  intro j hj
  rcases h.2 with ⟨he, h0⟩ | ⟨g, cap, cur, he, hB, hg, _⟩
  · omega
  · have ha : a = some ⟨g, 0, none⟩ := by injection he
    subst ha
    have hlt : g < w.heap.size := by
      rcases Nat.lt_or_ge g w.heap.size with h | h
      · exact h
      · rw [Array.getElem?_eq_none h] at hg; cases hg
    refine ⟨g, rfl, hlt, ?_, ?_, ?_⟩
    · rw [h.cellAt _ (by omega)]; exact sysV_get l j 0 hj (by omega)
    · rw [h.cellAt _ (by omega)]; exact sysV_get l j 1 hj (by omega)
    · rw [h.cellAt _ (by omega)]; exact sysV_get l j 2 hj (by omega)
theorem ReadSy.below {w w' : World} {a : Option Addr} {l : List SyL} (h : ReadSy w a l) (hb : Below w.heap.size w w') : ReadSy w' a l := by
  intro j hj
  obtain ⟨g, e, hg, c0, c1, c2⟩ := h j hj
  exact ⟨g, e, Nat.lt_of_lt_of_le hg hb.size, (hb.cell (p := ⟨g, _, none⟩) hg).trans c0, (hb.cell (p := ⟨g, _, none⟩) hg).trans c1, (hb.cell (p := ⟨g, _, none⟩) hg).trans c2⟩
theorem ReadSy.drewN {w : World} {a : Option Addr} {l : List SyL} (h : ReadSy w a l) (n : Nat) : ReadSy (w.drewN n) a l := h

theorem owns_syms {B e m : Nat} {w : World} {v : Value} {xs : List Value} {l : List SyL} (h : w.ownsRow B e 3 v m xs) (hl : sysV l = xs) : w.ownsRow B e 3 v l.length (sysV l) := by
  have hm : m = l.length := by have := h.1; rw [← hl, sysV_length] at this; omega
  rw [← hm, hl]; exact h
/-- What a function returns that makes a row of symbols, in a row of its own from block B on. -/
def Syms (T B : Nat) (l : List SyL) (w : World) (e : Ending) (w' : World) : Prop :=
  ∃ v, e = .returned v ∧ w'.ownsRow B T 3 v l.length (sysV l) ∧ Below w.heap.size w w'
/-- The first k of a row are the symbols l, the rest is R. -/
def headSy (k : Nat) (l : List SyL) (R : List Value) : List Value := sysV (l.take k) ++ R
theorem headSy_set (k : Nat) (l : List SyL) (h : k < l.length) (a b c : Value) (R : List Value) :
    ((((headSy k l (a :: b :: c :: R)).set (k * 3) (.string l[k].name)).set (k * 3 + 1) (.int .i64 l[k].start)).set (k * 3 + 2) (.int .i64 l[k].size)) = headSy (k + 1) l R := by
  have hl : (sysV (l.take k)).length = k * 3 := by rw [sysV_length, List.length_take]; omega
  have e : sysV (l.take (k + 1)) = sysV (l.take k) ++ syV l[k] := by
    rw [List.take_succ_eq_append_getElem h, sysV_append, sysV_one]
  unfold headSy
  rw [e, List.set_append_right _ _ (by omega), List.set_append_right _ _ (by omega), List.set_append_right _ _ (by omega), hl, List.append_assoc]
  congr 1
  rw [Nat.sub_self, Nat.add_sub_cancel_left, Nat.add_sub_cancel_left]
  rfl
def sumSy (l : List SyL) : Nat := (l.map (·.name.size)).sum
theorem sumSy_snoc (l : List SyL) (k : Nat) (h : k < l.length) : sumSy (l.take (k + 1)) = sumSy (l.take k) + l[k].name.size := by
  unfold sumSy
  rw [List.take_succ_eq_append_getElem h, List.map_append, List.sum_append]; rfl
theorem sumSy_all (l : List SyL) : sumSy (l.take l.length) = sumSy l := by rw [List.take_of_length_le (Nat.le_refl _)]
theorem sumSy_mem (l : List SyL) (t : SyL) (h : t ∈ l) : t.name.size ≤ sumSy l := by
  induction l with
  | nil => cases h
  | cons x r ih =>
    simp only [sumSy, List.map_cons, List.sum_cons] at ih ⊢
    rcases List.mem_cons.1 h with rfl | h
    · omega
    · have := ih h; omega
/-- A row of symbols that came in: the symbols l. -/
def ArgSy (w : World) (a : Option Addr) (l : List SyL) : Prop :=
  ∀ j (h : j < l.length), ∃ x, a = some x ∧ x.block < w.heap.size ∧ w.cell? (x.add (j * 3)) = some (.string l[j].name) ∧ w.cell? ⟨(x.add (j * 3)).block, (x.add (j * 3)).off + 1, none⟩ = some (.int .i64 l[j].start) ∧ w.cell? ⟨(x.add (j * 3)).block, (x.add (j * 3)).off + 2, none⟩ = some (.int .i64 l[j].size) ∧
    l[j].name.size ≤ maxLen ∧ (Lit.int .i64 l[j].start).wf = true ∧ (Lit.int .i64 l[j].size).wf = true
theorem ArgSy.below {w w' : World} {a : Option Addr} {l : List SyL} (h : ArgSy w a l) (hb : Below w.heap.size w w') : ArgSy w' a l := by
  intro j hj
  obtain ⟨x, e, hx, c0, c1, c2, r⟩ := h j hj
  exact ⟨x, e, Nat.lt_of_lt_of_le hx hb.size, (hb.cell (by rw [addr_block]; exact hx)).trans c0, (hb.cell (p := ⟨_, _, none⟩) (by rw [addr_block]; exact hx)).trans c1, (hb.cell (p := ⟨_, _, none⟩) (by rw [addr_block]; exact hx)).trans c2, r⟩
section
variable {H : Type} {enc : TypeId × Value → H} {P : Program} {w : World} {base : Nat} {spare : Nat → Bool} {held : Bool}
theorem argSy_of {t e : TypeId} {f0 f1 f2 : Field} {a : Option Addr} {len cap : Nat} {d : DataW H} {p : List MemPlace} (ht : P.underlying t = some (.slice e)) (he : P.underlying e = some (.struct #[f0, f1, f2]))
    (hone : oneCellFields P #[f0, f1, f2] = true) (hC : P.cellsOf e = 3) (h0 : P.underlying f0.type = some .string) (h1 : P.underlying f1.type = some (.int .i64)) (h2 : P.underlying f2.type = some (.int .i64))
    (h : DataW.Trod enc P w 0 (fun _ => true) held t (.slice a len cap) d p) : ∃ l : List SyL, l.length = len ∧ len ≤ maxLen ∧ ArgSy w a l := by
  obtain ⟨fuel, hf⟩ := h
  rcases open_fields ht he hone hC hf with hcs | ⟨x, len', cap', m, hcs, hl, hm, rfl, hi⟩
  · simp [Value.cells] at hcs
    obtain ⟨rfl, rfl, rfl⟩ := hcs
    exact ⟨[], rfl, by simp [maxLen], fun j hj => absurd hj (by simp)⟩
  · simp [Value.cells] at hcs
    obtain ⟨rfl, rfl, rfl⟩ := hcs
    obtain ⟨l, hll, hq⟩ := list_of len (fun j (t : SyL) => w.cell? (x.add (j * 3)) = some (.string t.name) ∧ w.cell? ⟨(x.add (j * 3)).block, (x.add (j * 3)).off + 1, none⟩ = some (.int .i64 t.start) ∧ w.cell? ⟨(x.add (j * 3)).block, (x.add (j * 3)).off + 2, none⟩ = some (.int .i64 t.size) ∧ t.name.size ≤ maxLen ∧ (Lit.int .i64 t.start).wf = true ∧ (Lit.int .i64 t.size).wf = true) (fun j hj => by
      obtain ⟨n, hn⟩ := hi j (by omega)
      obtain ⟨v0, y0, c0, t0⟩ := hn 0 f0 rfl
      obtain ⟨v1, y1, c1, t1⟩ := hn 1 f1 rfl
      obtain ⟨v2, y2, c2, t2⟩ := hn 2 f2 rfl
      obtain ⟨k, e0, _, w0⟩ := DataW.trod_string h0 t0
      obtain ⟨m, e1, _, w1⟩ := DataW.trod_int h1 t1
      obtain ⟨s, e2, _, w2⟩ := DataW.trod_int h2 t2
      injection e0 with e0; injection e1 with e1; injection e2 with e2
      subst e0 e1 e2
      exact ⟨⟨k, m, s⟩, c0, (add_in x (j * 3) 0) ▸ c1, (add_in x (j * 3) 1) ▸ c2, w0, w1, w2⟩)
    exact ⟨l, hll, by omega, fun j hj => ⟨x, rfl, by have := World.block_lt_of_cell? w _ (hq j hj).1; rw [addr_block] at this; exact this, hq j hj⟩⟩

theorem argSy_at {t e : TypeId} {f0 f1 f2 : Field} {v : Value} {fuel : Nat} {y : DataW H × List MemPlace} (ht : P.underlying t = some (.slice e)) (he : P.underlying e = some (.struct #[f0, f1, f2]))
    (hone : oneCellFields P #[f0, f1, f2] = true) (hC : P.cellsOf e = 3) (h0 : P.underlying f0.type = some .string) (h1 : P.underlying f1.type = some (.int .i64)) (h2 : P.underlying f2.type = some (.int .i64))
    (h : DataW.trod enc P w 0 (fun _ => true) held fuel t [v] = some y) : ∃ (a : Option Addr) (c : Nat) (l : List SyL), v = .slice a l.length c ∧ l.length ≤ maxLen ∧ ArgSy w a l := by
  have hv : ∃ a n c, v = .slice a n c := by
    rcases open_slice ht h with h0 | ⟨a, len, cap, m, n, D, Pl, hcs, _⟩
    · have := h0.1; simp at this; exact ⟨_, _, _, this⟩
    · simp at hcs; exact ⟨_, _, _, hcs⟩
  obtain ⟨a, n, c, rfl⟩ := hv
  obtain ⟨l, hl, hm, ha⟩ := argSy_of (d := y.1) (p := y.2) ht he hone hC h0 h1 h2 ⟨fuel, by simpa [Value.cells] using h⟩
  subst hl
  exact ⟨a, c, l, rfl, hm, ha⟩
end

/-- Does a symbol hold an offset? -/
def syIn (x : SyL) (o : Int) : Bool := (decide (0 ≤ x.start) && decide (x.start ≤ 1000000)) && ((decide (0 ≤ x.size) && decide (x.size ≤ 1000000)) && (decide (x.start ≤ o) && decide (o < x.start + x.size)))
def symF (o : Int) : Nat → List SyL → Int
  | _, [] => -1
  | k, x :: r => if syIn x o = true then (k : Int) else symF o (k + 1) r
def symZ (l : List SyL) (o : Int) : Int := symF o 0 l
theorem symF_at (l : List SyL) (o : Int) (k : Nat) (h : k < l.length) : symF o k (l.drop k) = if syIn l[k] o = true then (k : Int) else symF o (k + 1) (l.drop (k + 1)) := by
  rw [List.drop_eq_getElem_cons h]; rfl
theorem symF_out (l : List SyL) (o : Int) (k : Nat) (h : l.length ≤ k) : symF o k (l.drop k) = -1 := by rw [List.drop_eq_nil_of_le h]; rfl
/-- Are the symbols from the k-th on as an image has them? at: where the next one is to begin. -/
def imgF (c : List UInt8) : List ByteArray → Nat → List SyL → Bool
  | _, a, [] => decide (a = c.length)
  | seen, a, x :: r => (decide (x.start = (a : Int)) && (decide (1 ≤ x.size) && decide (x.size ≤ (c.length : Int) - (a : Int)))) && (nameB x.name && (!(seen.any fun n => decide (n = x.name)) && ((disZ ((c.drop a).take x.size.toNat)).isSome && imgF c (x.name :: seen) (a + x.size.toNat) r)))
def imgB (c : List UInt8) (l : List SyL) : Bool := decide (c.length ≤ 1000000) && imgF c [] 0 l
end Go.Proofs.Ytljmkkodhnkemaa
