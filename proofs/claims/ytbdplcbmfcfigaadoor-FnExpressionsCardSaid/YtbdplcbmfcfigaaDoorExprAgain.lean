/- Expressions read again from their tokens' texts, and the chain of operands. Nothing of the program. -/
import Derived.Test.YtbdplcbmfcfigaaDoorPexPlain
import Derived.Test.YtbdplcbmfcfigaaDoorJoinPlain
import Derived.Test.YtbdplcbmfcfigaaDoorIntRows
namespace Go.Proofs.YtbdplcbmfcfigaaDoor
open Go.RowKit Go.Lib

theorem scan_add (l : List TokL) : ∀ a b : Nat, scanN l (a + b) = (scanN l a).bind fun j => (scanN (l.drop j) b).map (· + j) := by
  induction l with
  | nil =>
    intro a b
    cases a with
    | zero => simp [scanN]
    | succ a => rw [show a + 1 + b = (a + b) + 1 from by omega]; rfl
  | cons t r ih =>
    intro a b
    cases a with
    | zero => simp [scanN]
    | succ a =>
      rw [show a + 1 + b = (a + b) + 1 from by omega]
      simp only [scanN]
      by_cases hb : tokB t = true
      · rw [if_pos hb, if_pos hb, show a + b + (arZ t).toNat = (a + (arZ t).toNat) + b from by omega, ih]
        cases scanN r (a + (arZ t).toNat) with
        | none => rfl
        | some j =>
          simp only [Option.bind_some, Option.map_some, List.drop_succ_cons]
          rw [Option.map_map]
          rfl
      · rw [if_neg hb, if_neg hb]; rfl
/-- Where k operands end, the first one beginning at b. -/
def endAll (l : List TokL) : Nat → Int → Int
  | 0, b => b
  | k + 1, b => endAll l k (endZ l b)
theorem end_chain (l : List TokL) : ∀ (k i m : Nat), scanN (l.drop i) k = some m → endAll l k (i : Int) = ((i + m : Nat) : Int) := by
  intro k
  induction k with
  | zero =>
    intro i m h
    have : some 0 = some m := by rw [← h]; cases l.drop i <;> rfl
    injection this with this
    subst this
    rfl
  | succ k ih =>
    intro i m h
    rw [show k + 1 = 1 + k from by omega, scan_add] at h
    cases h1 : scanN (l.drop i) 1 with
    | none => rw [h1] at h; cases h
    | some j =>
      rw [h1] at h
      simp only [Option.bind_some, List.drop_drop, Option.map_eq_some_iff] at h
      obtain ⟨m', h2, rfl⟩ := h
      have he : endZ l (i : Int) = ((i + j : Nat) : Int) := by rw [endZ_nat, h1]; simp [resZ]
      show endAll l k (endZ l (i : Int)) = _
      rw [he, ih (i + j) m' h2]
      omega
theorem expr_scan (l : List TokL) (h : exprB l = true) : scanN l 1 = some l.length := by
  unfold exprB at h
  rw [Bool.and_eq_true, decide_eq_true_eq, decide_eq_true_eq] at h
  have h1 := endZ_nat l 0
  rw [List.drop_zero] at h1
  have h2 := h.2
  rw [show (0 : Int) = ((0 : Nat) : Int) from rfl, h1] at h2
  cases hs : scanN l 1 with
  | none => rw [hs] at h2; simp only [resZ] at h2; omega
  | some k => rw [hs] at h2; simp only [resZ] at h2; congr 1; omega
theorem expr_first (l : List TokL) (h : exprB l = true) : ∃ (h0 : 0 < l.length) (r : Nat), arZ l[0] = (r : Int) ∧ r ≤ 4 ∧ tokB l[0] = true ∧ endAll l r 1 = (l.length : Int) := by
  have hs := expr_scan l h
  cases l with
  | nil => simp [scanN] at hs
  | cons t r =>
    simp only [scanN] at hs
    split at hs
    · rename_i hb
      have a0 := arZ_pos t hb
      have a1 := (arZ_bd t).2
      simp only [Option.map_eq_some_iff, Nat.zero_add] at hs
      obtain ⟨m, hm, he⟩ := hs
      refine ⟨by simp, (arZ t).toNat, by simp; omega, by omega, hb, ?_⟩
      have := end_chain (t :: r) (arZ t).toNat 1 m (by simpa using hm)
      rw [show (1 : Int) = ((1 : Nat) : Int) from rfl, this]
      omega
    · cases hs
theorem scan_toks (l : List TokL) : ∀ n, scanN l n = some l.length → ∀ t ∈ l, tokB t = true := by
  induction l with
  | nil => intro n _ t ht; cases ht
  | cons x r ih =>
    intro n h t ht
    cases n with
    | zero => simp [scanN] at h
    | succ n =>
      simp only [scanN] at h
      split at h
      · rename_i hb
        simp only [Option.map_eq_some_iff, List.length_cons, Nat.add_right_cancel_iff, exists_eq_right] at h
        rcases List.mem_cons.1 ht with rfl | ht
        · exact hb
        · exact ih _ h t ht
      · cases h
theorem expr_toks (l : List TokL) (h : exprB l = true) : ∀ t ∈ l, tokB t = true := scan_toks l 1 (expr_scan l h)
theorem expr_names (l : List TokL) (h : exprB l = true) : ∀ j (hj : j < l.length), l[j].name.size ≤ maxLen := fun j hj => by
  have := tok_name _ (expr_toks l h _ (List.getElem_mem hj))
  unfold maxLen; omega
theorem pt_again (t : TokL) (h : tokB t = true) : ptS (fmtT t) = (t, true) := by
  rw [← pt_same]
  have := complete_I (fmtT t) t h rfl
  unfold ptI
  rw [this, if_pos ⟨rfl, h⟩]
theorem toksO_again (l : List TokL) (h : ∀ t ∈ l, tokB t = true) : toksO (fmtsL l) = some l := by
  induction l with
  | nil => rfl
  | cons t r ih =>
    show toksO (fmtT t :: fmtsL r) = _
    simp only [toksO]
    rw [pt_again t (h t (by simp)), if_pos rfl, ih (fun x hx => h x (by simp [hx]))]
    rfl
theorem pe_again (l : List TokL) (h : exprB l = true) : peZ (fmtsL l) = (l, true) := peZ_yes _ l (toksO_again l (expr_toks l h)) h
theorem fmtsL_length (l : List TokL) : (fmtsL l).length = l.length := by simp [fmtsL]
theorem fmtsL_size (l : List TokL) : ∀ s ∈ fmtsL l, s.size ≤ 1048576 := by
  intro s hs
  obtain ⟨t, _, rfl⟩ := List.mem_map.1 hs
  have := fmtT_size t
  omega
theorem fmtsL_next (l : List TokL) (k : Nat) (h : k < l.length) : fmtsL (l.take k) ++ [fmtT l[k]] = fmtsL (l.take (k + 1)) := by
  rw [List.take_succ_eq_append_getElem h]
  unfold fmtsL
  rw [List.map_append]
  rfl
end Go.Proofs.YtbdplcbmfcfigaaDoor
