/- Rows of ints in memory, and the operands' places. Nothing of the program. -/
import Derived.Test.YtbdplcbmfcfigaaDoorTokRows
import Derived.Test.YtbdplcbmfcfigaaDoorExprPlain
namespace Go.Proofs.YtbdplcbmfcfigaaDoor
open Go.RowKit Go.Lib

def intV (l : List Int) : List Value := l.map (Value.int .i64)
theorem intV_length (l : List Int) : (intV l).length = l.length := by simp [intV]
theorem intV_append (a b : List Int) : intV (a ++ b) = intV a ++ intV b := by simp [intV]
theorem owns_ints {B e m : Nat} {w : World} {v : Value} {xs : List Value} {l : List Int} (h : w.ownsRow B e 1 v m xs) (hl : intV l = xs) : w.ownsRow B e 1 v l.length (intV l) := by
  have hm : m = l.length := by have := h.1; rw [← hl, intV_length] at this; omega
  rw [← hm, hl]; exact h
/-- What a call may read of a row of ints. -/
def ReadI (w : World) (a : Option Addr) (l : List Int) : Prop := ∀ j (h : j < l.length), ∃ g, a = some ⟨g, 0, none⟩ ∧ g < w.heap.size ∧ w.cell? ⟨g, j, none⟩ = some (.int .i64 l[j])
theorem readI_of {B T c : Nat} {w : World} {a : Option Addr} {l : List Int} (h : w.ownsRow B T 1 (.slice a l.length c) l.length (intV l)) : ReadI w a l := by
  intro j hj
  rcases h.2 with ⟨he, h0⟩ | ⟨g, cap, cur, he, hB, hg, _⟩
  · omega
  · have ha : a = some ⟨g, 0, none⟩ := by injection he
    subst ha
    have hlt : g < w.heap.size := by
      rcases Nat.lt_or_ge g w.heap.size with h | h
      · exact h
      · rw [Array.getElem?_eq_none h] at hg; cases hg
    refine ⟨g, rfl, hlt, ?_⟩
    rw [h.cellAt j (by omega)]
    simp [intV, hj]
theorem ReadI.below {w w' : World} {a : Option Addr} {l : List Int} (h : ReadI w a l) (hb : Below w.heap.size w w') : ReadI w' a l := by
  intro j hj
  obtain ⟨g, e, hg, c0⟩ := h j hj
  exact ⟨g, e, Nat.lt_of_lt_of_le hg hb.size, (hb.cell (p := ⟨g, _, none⟩) hg).trans c0⟩

/-- What a function returns that makes a row of ints, in a row of its own from block B on. -/
def Ints (T B : Nat) (l : List Int) (w : World) (e : Ending) (w' : World) : Prop :=
  ∃ v, e = .returned v ∧ w'.ownsRow B T 1 v l.length (intV l) ∧ Below w.heap.size w w'

/-- The marks from m on, n of them. -/
def mki (m n : Nat) : List Int := (List.range n).map fun j => ((m + j : Nat) : Int)
theorem mki_length (m n : Nat) : (mki m n).length = n := by simp [mki]
theorem mki_get (m n j : Nat) (h : j < (mki m n).length) : (mki m n)[j] = ((m + j : Nat) : Int) := by simp [mki]
def halfI (m k : Nat) (l : List Int) : List Int := mki m k ++ l.drop k
theorem halfI_length (m k : Nat) (l : List Int) (h : k ≤ l.length) : (halfI m k l).length = l.length := by simp [halfI, mki_length]; omega
theorem halfI_zero (m : Nat) (l : List Int) : halfI m 0 l = l := by simp [halfI, mki]
theorem halfI_all (m : Nat) (l : List Int) : halfI m l.length l = mki m l.length := by simp [halfI]
theorem halfI_set (m k : Nat) (l : List Int) (h : k < l.length) : (intV (halfI m k l)).set k (.int .i64 ((m + k : Nat) : Int)) = intV (halfI m (k + 1) l) := by
  unfold halfI
  have e : mki m (k + 1) = mki m k ++ [((m + k : Nat) : Int)] := by simp [mki, List.range_succ]
  rw [e, intV, intV, ← List.map_set, List.set_append_right _ _ (by rw [mki_length]; exact Nat.le_refl _), mki_length, Nat.sub_self, List.append_assoc]
  congr 2
  rw [List.drop_eq_getElem_cons h]
  rfl

/-- The places of k operands, the first one at index b. -/
def opsFrom (l : List TokL) : Nat → Int → List Int
  | 0, _ => []
  | k + 1, b => b :: opsFrom l k (endZ l b)
theorem opsFrom_length (l : List TokL) : ∀ (k : Nat) (b : Int), (opsFrom l k b).length = k := by
  intro k
  induction k with
  | zero => intro b; rfl
  | succ k ih => intro b; simp [opsFrom, ih]
/-- The number of operands at an index; 0 outside. -/
def arAt (l : List TokL) (b : Int) : Nat := if h : b.toNat < l.length then (arZ l[b.toNat]).toNat else 0
def opsZ (l : List TokL) (b : Int) : List Int := if endZ l b < 0 then [] else opsFrom l (arAt l b) (b + 1)
theorem opsZ_none (l : List TokL) (b : Int) (h : endZ l b < 0) : opsZ l b = [] := by unfold opsZ; rw [if_pos h]
theorem opsZ_some (l : List TokL) (i : Nat) (h : ¬ endZ l (i : Int) < 0) (hi : i < l.length) (r : Nat) (hr : arZ l[i] = (r : Int)) : opsZ l (i : Int) = opsFrom l r ((i : Int) + 1) := by
  unfold opsZ arAt
  rw [if_neg h, Int.toNat_natCast, dif_pos hi, hr]
  rfl
/-- An expression begins with a token. -/
theorem endZ_tok (l : List TokL) (i : Nat) (h : ¬ endZ l (i : Int) < 0) : ∃ hi : i < l.length, tokB l[i] = true := by
  by_cases hi : i < l.length
  · refine ⟨hi, ?_⟩
    cases hb : tokB l[i] with
    | true => rfl
    | false => rw [endZ_nat, scan_bad l i 1 hi (by omega) hb] at h; omega
  · rw [endZ_nat, scan_out l i 1 (by omega) (by omega)] at h; omega
theorem opsZ_len (l : List TokL) (b : Int) : (opsZ l b).length ≤ 4 := by
  unfold opsZ
  split
  · simp
  · rw [opsFrom_length]
    unfold arAt
    split
    · have := (arZ_bd l[b.toNat]).2; omega
    · omega
end Go.Proofs.YtbdplcbmfcfigaaDoor
