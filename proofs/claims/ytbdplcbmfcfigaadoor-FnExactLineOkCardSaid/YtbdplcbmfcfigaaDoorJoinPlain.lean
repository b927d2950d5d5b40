/- Plain facts on the texts of expressions. Nothing of the program. -/
import Derived.Test.YtbdplcbmfcfigaaDoorFmtPlain
import Derived.Test.YtbdplcbmfcfigaaDoorExprPlain
import Derived.Test.YtbdplcbmfcfigaaDoorFieldsPlain
import Derived.Lib.Join
namespace Go.Proofs.YtbdplcbmfcfigaaDoor
open Go.RowKit Go.Lib

def fmtsL (l : List TokL) : List ByteArray := l.map fmtT
/-- The tokens' texts, one space between them. -/
def jn (l : List TokL) : List UInt8 := Lib.join ((fmtsL l).map (·.data.toList)) [32]
def fexZ (l : List TokL) : ByteArray := if exprB l = true then ⟨(jn l).toArray⟩ else ⟨#[]⟩
theorem jn_nil : jn [] = [] := rfl
theorem joinTail_snoc (sep y : List UInt8) (r : List (List UInt8)) : joinTail sep (r ++ [y]) = joinTail sep r ++ (sep ++ y) := by simp [joinTail]
theorem jn_one (t : TokL) : jn [t] = (fmtT t).data.toList := by
  show Lib.join [(fmtT t).data.toList] [32] = _
  rw [join_one]
theorem jn_snoc (l : List TokL) (t : TokL) (h : l ≠ []) : jn (l ++ [t]) = jn l ++ [32] ++ (fmtT t).data.toList := by
  cases l with
  | nil => exact absurd rfl h
  | cons x r =>
    unfold jn fmtsL
    rw [List.map_append, List.map_append]
    simp only [List.map_cons, List.map_nil, List.cons_append]
    rw [join_cons, join_cons, joinTail_snoc]
    simp
theorem jn_take (l : List TokL) (k : Nat) (h : k < l.length) (h0 : 0 < k) : jn (l.take (k + 1)) = jn (l.take k) ++ [32] ++ (fmtT l[k]).data.toList := by
  rw [List.take_succ_eq_append_getElem h, jn_snoc]
  intro e
  have := congrArg List.length e
  rw [List.length_take, List.length_nil] at this
  omega
theorem jn_take0 (l : List TokL) (h : 0 < l.length) : jn (l.take 1) = (fmtT l[0]).data.toList := by
  rw [List.take_succ_eq_append_getElem h]
  exact jn_one _
theorem jn_len (l : List TokL) : ∀ k, k ≤ l.length → (jn (l.take k)).length ≤ 20 * k := by
  intro k
  induction k with
  | zero => intro _; simp [jn_nil]
  | succ k ih =>
    intro hk
    have hf := fmtT_size l[k]
    rcases Nat.eq_zero_or_pos k with h0 | h0
    · subst h0
      rw [jn_take0 l (by omega), list_len]
      omega
    · rw [jn_take l k (by omega) h0]
      have := ih (by omega)
      simp only [List.length_append, list_len, List.length_cons, List.length_nil]
      omega
theorem fexZ_no (l : List TokL) (h : exprB l = false) : fexZ l = ⟨#[]⟩ := by unfold fexZ; rw [h]; rfl
theorem fexZ_yes (l : List TokL) (h : exprB l = true) : fexZ l = ⟨(jn l).toArray⟩ := by unfold fexZ; rw [if_pos h]
theorem expr_len (l : List TokL) (h : exprB l = true) : 0 < l.length ∧ l.length ≤ 20 := by
  refine ⟨?_, ?_⟩
  · cases l with
    | nil => exact absurd h (by decide)
    | cons a b => simp
  · unfold exprB at h
    rw [Bool.and_eq_true, decide_eq_true_eq] at h
    exact h.1
/-- A row of strings: the first k are the texts, the others R. -/
def headS (k : Nat) (l : List TokL) (R : List Value) : List Value := strV (fmtsL (l.take k)) ++ R
theorem headS_set (k : Nat) (l : List TokL) (h : k < l.length) (a : Value) (R : List Value) : (headS k l (a :: R)).set k (.string (fmtT l[k])) = headS (k + 1) l R := by
  have hl : (strV (fmtsL (l.take k))).length = k := by rw [strV_length]; unfold fmtsL; rw [List.length_map, List.length_take]; omega
  have e : strV (fmtsL (l.take (k + 1))) = strV (fmtsL (l.take k)) ++ [.string (fmtT l[k])] := by
    rw [List.take_succ_eq_append_getElem h]
    unfold fmtsL strV
    rw [List.map_append, List.map_append]
    rfl
  unfold headS
  rw [e, List.set_append_right _ _ (by omega), hl, Nat.sub_self, List.append_assoc]
  rfl
end Go.Proofs.YtbdplcbmfcfigaaDoor
