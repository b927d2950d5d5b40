/- Rows of tokens in memory. Nothing of the program. -/
import Derived.Test.YtbdplcbmfcfigaaDoorFieldsPlain
import Derived.Test.YtbdplcbmfcfigaaDoorTokPlain
import Derived.Maps.AppendAt
import Derived.Below
import Derived.Deep.Draws
namespace Go.Proofs.YtbdplcbmfcfigaaDoor
open Go.RowKit Go.Lib

def toksV (l : List TokL) : List Value := l.flatMap tokV
theorem tokV_length (t : TokL) : (tokV t).length = 3 := rfl
theorem toksV_length (l : List TokL) : (toksV l).length = l.length * 3 := by
  induction l with
  | nil => rfl
  | cons t r ih => simp only [toksV, List.flatMap_cons, List.length_append, tokV_length, List.length_cons] at ih ⊢; omega
theorem toksV_append (a b : List TokL) : toksV (a ++ b) = toksV a ++ toksV b := by simp [toksV]
theorem toksV_one (t : TokL) : toksV [t] = tokV t := by simp [toksV]
theorem toksV_get (l : List TokL) (j i : Nat) (h : j < l.length) (hi : i < 3) : (toksV l)[j * 3 + i]? = (tokV l[j])[i]? := by
  induction l generalizing j with
  | nil => simp at h
  | cons t r ih =>
    cases j with
    | zero =>
      simp only [toksV, List.flatMap_cons, Nat.zero_mul, Nat.zero_add, List.getElem_cons_zero]
      rw [List.getElem?_append_left (by rw [tokV_length]; exact hi)]
    | succ j =>
      have e : (j + 1) * 3 + i = 3 + (j * 3 + i) := by omega
      simp only [toksV, List.flatMap_cons, List.getElem_cons_succ] at ih ⊢
      rw [e, List.getElem?_append_right (by rw [tokV_length]; omega), tokV_length, Nat.add_sub_cancel_left]
      exact ih j (by simpa using h)

/-- What a call may read of a row of tokens: its j-th element. -/
def ReadT (w : World) (a : Option Addr) (l : List TokL) : Prop :=
  ∀ j (h : j < l.length), ∃ g, a = some ⟨g, 0, none⟩ ∧ g < w.heap.size ∧ w.cell? ⟨g, j * 3, none⟩ = some (.int .i64 l[j].kind) ∧ w.cell? ⟨g, j * 3 + 1, none⟩ = some (.int .i64 l[j].num) ∧ w.cell? ⟨g, j * 3 + 2, none⟩ = some (.string l[j].name)
theorem readT_of {B T c : Nat} {w : World} {a : Option Addr} {l : List TokL} (h : w.ownsRow B T 3 (.slice a l.length c) l.length (toksV l)) : ReadT w a l := by
  intro j hj
  rcases h.2 with ⟨he, h0⟩ | ⟨g, cap, cur, he, hB, hg, _⟩
  · omega
  · have ha : a = some ⟨g, 0, none⟩ := by injection he
    subst ha
    have hlt : g < w.heap.size := by
      rcases Nat.lt_or_ge g w.heap.size with h | h
      · exact h
      · rw [Array.getElem?_eq_none h] at hg; cases hg
    refine ⟨g, rfl, hlt, ?_, ?_, ?_⟩
    · rw [h.cellAt _ (by omega)]; exact toksV_get l j 0 hj (by omega)
    · rw [h.cellAt _ (by omega)]; exact toksV_get l j 1 hj (by omega)
    · rw [h.cellAt _ (by omega)]; exact toksV_get l j 2 hj (by omega)
theorem ReadT.below {w w' : World} {a : Option Addr} {l : List TokL} (h : ReadT w a l) (hb : Below w.heap.size w w') : ReadT w' a l := by
  intro j hj
  obtain ⟨g, e, hg, c0, c1, c2⟩ := h j hj
  exact ⟨g, e, Nat.lt_of_lt_of_le hg hb.size, (hb.cell (p := ⟨g, _, none⟩) hg).trans c0, (hb.cell (p := ⟨g, _, none⟩) hg).trans c1, (hb.cell (p := ⟨g, _, none⟩) hg).trans c2⟩
theorem ReadT.drewN {w : World} {a : Option Addr} {l : List TokL} (h : ReadT w a l) (n : Nat) : ReadT (w.drewN n) a l := h

theorem owns3_shape {B T n s : Nat} {w : World} {v : Value} {xs : List Value} (h : w.ownsRow B T s v n xs) : ∃ a c, v = .slice a n c := by
  rcases h.2 with ⟨rfl, rfl⟩ | ⟨g, cap, cur, rfl, _⟩
  · exact ⟨_, _, rfl⟩
  · exact ⟨_, _, rfl⟩
theorem owns3_below {B T n s : Nat} {w w' : World} {v : Value} {xs : List Value} (h : w.ownsRow B T s v n xs) (hb : Below w.heap.size w w') : w'.ownsRow B T s v n xs :=
  h.kept (row := none) ⟨hb.os, hb.tape, hb.output, hb.size, fun j hj _ => hb.block j hj⟩ (by
    cases v.ownBlock with
    | none => exact .inl rfl
    | some x => exact .inr (by simp))
theorem owns_toks {B e m : Nat} {w : World} {v : Value} {xs : List Value} {l : List TokL} (h : w.ownsRow B e 3 v m xs) (hl : toksV l = xs) : w.ownsRow B e 3 v l.length (toksV l) := by
  have hm : m = l.length := by have := h.1; rw [← hl, toksV_length] at this; omega
  rw [← hm, hl]; exact h
theorem grown_of_below {w w' : World} (hb : Below w.heap.size w w') (row : Option Nat) : w.grownBy w' row := ⟨hb.os, hb.tape, hb.output, hb.size, fun j hj _ => hb.block j hj⟩

/-- What a function returns that makes a row of tokens, in a row of its own from block B on. -/
def Toks (T B : Nat) (l : List TokL) (w : World) (e : Ending) (w' : World) : Prop :=
  ∃ v, e = .returned v ∧ w'.ownsRow B T 3 v l.length (toksV l) ∧ Below w.heap.size w w'
/-- The first k of a row are the tokens l, the rest is R. -/
def headT (k : Nat) (l : List TokL) (R : List Value) : List Value := toksV (l.take k) ++ R
theorem headT_set (k : Nat) (l : List TokL) (h : k < l.length) (a b c : Value) (R : List Value) :
    ((((headT k l (a :: b :: c :: R)).set (k * 3) (.int .i64 l[k].kind)).set (k * 3 + 1) (.int .i64 l[k].num)).set (k * 3 + 2) (.string l[k].name)) = headT (k + 1) l R := by
  have hl : (toksV (l.take k)).length = k * 3 := by rw [toksV_length, List.length_take]; omega
  have e : toksV (l.take (k + 1)) = toksV (l.take k) ++ tokV l[k] := by
    rw [List.take_succ_eq_append_getElem h, toksV_append, toksV_one]
  unfold headT
  rw [e, List.set_append_right _ _ (by omega), List.set_append_right _ _ (by omega), List.set_append_right _ _ (by omega), hl, List.append_assoc]
  congr 1
  rw [Nat.sub_self, Nat.add_sub_cancel_left, Nat.add_sub_cancel_left]
  rfl
theorem three (R : List Value) (n : Nat) (h : R.length = (n + 1) * 3) : ∃ a b c R', R = a :: b :: c :: R' ∧ R'.length = n * 3 := by
  match R, h with
  | a :: b :: c :: R', h => exact ⟨a, b, c, R', rfl, by simp at h; omega⟩
  | [], h => simp at h
  | [_], h => simp at h; omega
  | [_, _], h => simp at h; omega

def sumN (l : List TokL) : Nat := (l.map (·.name.size)).sum
theorem sumN_snoc (l : List TokL) (k : Nat) (h : k < l.length) : sumN (l.take (k + 1)) = sumN (l.take k) + l[k].name.size := by
  unfold sumN
  rw [List.take_succ_eq_append_getElem h, List.map_append, List.sum_append]; rfl
theorem sumN_all (l : List TokL) : sumN (l.take l.length) = sumN l := by rw [List.take_of_length_le (Nat.le_refl _)]
theorem sumN_mem (l : List TokL) (t : TokL) (h : t ∈ l) : t.name.size ≤ sumN l := by
  induction l with
  | nil => cases h
  | cons x r ih =>
    simp only [sumN, List.map_cons, List.sum_cons] at ih ⊢
    rcases List.mem_cons.1 h with rfl | h
    · omega
    · have := ih h; omega
/-- The measure that the laws take: -1, or all is small. -/
def SzT (l : List TokL) (left : Int) (w : World) (e : Ending) (w' : World) : Prop :=
  ∃ r : Int, e = .returned (.int .i64 r) ∧ Below w.heap.size w w' ∧ (r = -1 ∨ (0 ≤ r ∧ (l.length : Int) + (sumN l : Int) ≤ left))
end Go.Proofs.YtbdplcbmfcfigaaDoor
