/- Folding, plain: the folded expression from an index on, operand by operand. Nothing of the program. -/
import Derived.Test.YtcnnfhcpkbjolaaFoldTwice
namespace Go.Proofs.Ytcnnfhcpkbjolaa
open Go.RowKit Go.Lib

/-- What stands in one row, folded at its beginning. -/
def fw (o : List TokL) : List TokL := match o with
  | [t, a, b] => if 2 ≤ t.kind ∧ t.kind ≤ 6 ∧ a.kind = 0 ∧ b.kind = 0 ∧ 0 ≤ appZ t.kind a.num b.num ∧ appZ t.kind a.num b.num ≤ 999 then [foldT (appZ t.kind a.num b.num)] else [t, a, b]
  | o => o
theorem seg1_fw (t : TokL) (ops : List (List TokL)) : seg1 t ops = fw (t :: ops.flatten) := by
  unfold seg1
  generalize ops.flatten = o
  match o with
  | [] => rfl
  | [_] => rfl
  | [_, _] => rfl
  | _ :: _ :: _ :: _ => rfl
theorem fw_len (o : List TokL) (h : o.length ≠ 3) : fw o = o := by
  match o with
  | [] => rfl
  | [_] => rfl
  | [_, _] => rfl
  | [_, _, _] => exact absurd rfl h
  | _ :: _ :: _ :: _ :: _ => rfl
theorem fw_no (t a b : TokL) (h : ¬ (2 ≤ t.kind ∧ t.kind ≤ 6 ∧ a.kind = 0 ∧ b.kind = 0 ∧ 0 ≤ appZ t.kind a.num b.num ∧ appZ t.kind a.num b.num ≤ 999)) : fw [t, a, b] = [t, a, b] := by
  show (if _ then _ else _) = _
  rw [if_neg h]
theorem fw_yes (t a b : TokL) (h : 2 ≤ t.kind ∧ t.kind ≤ 6 ∧ a.kind = 0 ∧ b.kind = 0 ∧ 0 ≤ appZ t.kind a.num b.num ∧ appZ t.kind a.num b.num ≤ 999) : fw [t, a, b] = [foldT (appZ t.kind a.num b.num)] := by
  show (if _ then _ else _) = _
  rw [if_pos h]
theorem fw_le (o : List TokL) : (fw o).length ≤ o.length := by
  by_cases h : o.length = 3
  · match o, h with
    | [t, a, b], _ =>
      show (if _ then _ else _ : List TokL).length ≤ 3
      split <;> simp
  · rw [fw_len o h]; exact Nat.le_refl _
/-- The token and its first operands, folded. -/
def outF (t : TokL) (S : List (List TokL)) (j : Nat) : List TokL := t :: (S.take j).flatten
theorem outF_zero (t : TokL) (S : List (List TokL)) : outF t S 0 = [t] := by unfold outF; simp
theorem take_flat (S : List (List TokL)) (j : Nat) : (S.take j).flatten.length ≤ S.flatten.length := by
  have : S.flatten = (S.take j).flatten ++ (S.drop j).flatten := by rw [← List.flatten_append, List.take_append_drop]
  rw [this, List.length_append]
  omega
theorem outF_len (t : TokL) (l : List TokL) (j : Nat) : (outF t (segs l) j).length ≤ l.length + 1 := by
  have h1 := take_flat (segs l) j
  have h2 := segs_len l
  unfold outF
  rw [List.length_cons]
  omega
theorem segs_head (l : List TokL) (h : 0 < (segs l).length) : ∃ rest, segs l = foldE l :: rest := by
  unfold foldE
  cases hs : segs l with
  | nil => rw [hs] at h; simp at h
  | cons x r => exact ⟨r, rfl⟩
/-- Operand by operand. -/
theorem ops_at (l : List TokL) : ∀ (r b q : Nat), scanN (l.drop b) r = some q → ∀ j, j < r → ∃ x : Nat, (opsFrom l r (b : Int))[j]? = some (x : Int) ∧ (∃ q', scanN (l.drop x) 1 = some q') ∧ b ≤ x ∧ x < l.length ∧ (segs (l.drop b)).take (j + 1) = (segs (l.drop b)).take j ++ [foldE (l.drop x)] := by
  intro r
  induction r with
  | zero => intro b q _ j hj; omega
  | succ r ih =>
    intro b q h j hj
    obtain ⟨q1, q2, h1, h2, _⟩ := scan_next _ _ _ _ h
    obtain ⟨hl1, hd1⟩ := segs_scan _ 1 _ h1
    obtain ⟨rest, hrest⟩ := segs_head (l.drop b) (by omega)
    have he : endZ l (b : Int) = ((b + q1 : Nat) : Int) := by rw [endZ_nat, h1]; show (b : Int) + (q1 : Int) = _; omega
    have hb : b < l.length := by
      rcases Nat.lt_or_ge b l.length with h | h
      · exact h
      · rw [List.drop_eq_nil_of_le h] at h1; cases h1
    rw [hrest, List.drop_succ_cons, List.drop_zero, List.drop_drop] at hd1
    cases j with
    | zero =>
      refine ⟨b, rfl, ⟨q1, h1⟩, Nat.le_refl _, hb, ?_⟩
      rw [hrest]
      rfl
    | succ j =>
      obtain ⟨x, hx, hq, hbx, hxl, ht⟩ := ih (b + q1) q2 h2 j (by omega)
      refine ⟨x, ?_, hq, by omega, hxl, ?_⟩
      · show (((b : Int) :: opsFrom l r (endZ l (b : Int)))[j + 1]?) = _
        rw [List.getElem?_cons_succ, he]
        exact hx
      · rw [hrest, List.take_succ_cons, List.take_succ_cons, hd1, ht, List.cons_append]
theorem outF_next (t : TokL) (S : List (List TokL)) (j : Nat) (x : List TokL) (h : S.take (j + 1) = S.take j ++ [x]) : outF t S (j + 1) = outF t S j ++ x := by
  unfold outF
  rw [h]
  simp
/-- The whole. -/
theorem fold_at (l : List TokL) (i : Nat) (hi : i < l.length) : foldE (l.drop i) = fw (outF l[i] (segs (l.drop (i + 1))) (arN l[i])) := by
  unfold foldE
  rw [List.drop_eq_getElem_cons hi, segs, List.headD_cons, seg1_fw]
  rfl
end Go.Proofs.Ytcnnfhcpkbjolaa
