/- Plain facts on reading expressions. Nothing of the program. -/
import Derived.Test.YtbdplcbmfcfigaaDoorParsePlain
import Derived.Test.YtbdplcbmfcfigaaDoorExprPlain
import Derived.Test.YtbdplcbmfcfigaaDoorTokRows
namespace Go.Proofs.YtbdplcbmfcfigaaDoor
open Go.RowKit Go.Lib

/-- The tokens of words; none if one is no token's text. -/
def toksO : List ByteArray → Option (List TokL)
  | [] => some []
  | s :: r => if (ptS s).2 = true then (toksO r).map ((ptS s).1 :: ·) else none
/-- What ParseExpr answers. -/
def peZ (ws : List ByteArray) : List TokL × Bool := match toksO ws with
  | some l => if exprB l = true then (l, true) else ([], false)
  | none => ([], false)
theorem toksO_snoc (a : List ByteArray) (s : ByteArray) (l : List TokL) (h : toksO a = some l) (hs : (ptS s).2 = true) : toksO (a ++ [s]) = some (l ++ [(ptS s).1]) := by
  induction a generalizing l with
  | nil =>
    simp only [toksO, Option.some.injEq] at h
    subst h
    simp [toksO, hs]
  | cons x r ih =>
    simp only [toksO, List.cons_append] at h ⊢
    split at h
    · rename_i hx
      rw [if_pos hx]
      simp only [Option.map_eq_some_iff] at h
      obtain ⟨m, hm, rfl⟩ := h
      rw [ih m hm]
      rfl
    · cases h
theorem toksO_fail (a b : List ByteArray) (s : ByteArray) (hs : (ptS s).2 = false) : toksO (a ++ s :: b) = none := by
  induction a with
  | nil => simp [toksO, hs]
  | cons x r ih =>
    simp only [toksO, List.cons_append, ih]
    split <;> rfl
theorem toksO_len (a : List ByteArray) (l : List TokL) (h : toksO a = some l) : l.length = a.length := by
  induction a generalizing l with
  | nil => simp only [toksO, Option.some.injEq] at h; subst h; rfl
  | cons x r ih =>
    simp only [toksO] at h
    split at h
    · simp only [Option.map_eq_some_iff] at h
      obtain ⟨m, hm, rfl⟩ := h
      simp [ih m hm]
    · cases h
theorem ptS_tok (s : ByteArray) (h : (ptS s).2 = true) : tokB (ptS s).1 = true := by
  unfold ptS at h ⊢
  cases hf : (cands s).find? (fitB s) with
  | some t => exact ((fitB_iff s t).1 (List.find?_some hf)).1
  | none => rw [hf] at h; cases h
theorem tok_name (t : TokL) (h : tokB t = true) : t.name.size ≤ 8 := by
  obtain ⟨k, n, s⟩ := t
  by_cases h0 : k = 0
  · subst h0; have := tok_0 _ _ h; show s.size ≤ 8; omega
  by_cases h1 : k = 1
  · subst h1; exact (nameB_size s (tok_1 _ _ h).2).2.1
  by_cases h7 : k = 7
  · subst h7; exact (nameB_size s (tok_7 _ _ h).2.2).2.1
  · have := tok_op _ _ _ h h0 h1 h7; show s.size ≤ 8; omega
theorem toksO_names (a : List ByteArray) (l : List TokL) (h : toksO a = some l) : ∀ t ∈ l, t.name.size ≤ 8 := by
  induction a generalizing l with
  | nil => simp only [toksO, Option.some.injEq] at h; subst h; intro t ht; cases ht
  | cons x r ih =>
    simp only [toksO] at h
    split at h
    · rename_i hx
      simp only [Option.map_eq_some_iff] at h
      obtain ⟨m, hm, rfl⟩ := h
      intro t ht
      rcases List.mem_cons.1 ht with rfl | ht
      · exact tok_name _ (ptS_tok x hx)
      · exact ih m hm t ht
    · cases h
theorem names_max (a : List ByteArray) (l : List TokL) (h : toksO a = some l) : ∀ j (hj : j < l.length), l[j].name.size ≤ maxLen := fun j hj => by
  have := toksO_names a l h _ (List.getElem_mem hj)
  unfold maxLen; omega
theorem peZ_no (ws : List ByteArray) (h : toksO ws = none) : peZ ws = ([], false) := by unfold peZ; rw [h]
theorem peZ_bad (ws : List ByteArray) (l : List TokL) (h : toksO ws = some l) (hb : exprB l = false) : peZ ws = ([], false) := by unfold peZ; rw [h]; simp [hb]
theorem peZ_yes (ws : List ByteArray) (l : List TokL) (h : toksO ws = some l) (hb : exprB l = true) : peZ ws = (l, true) := by unfold peZ; rw [h]; simp [hb]
theorem peZ_len (ws : List ByteArray) : (peZ ws).1.length ≤ 20 := by
  unfold peZ
  split
  · split
    · rename_i l _ hb
      unfold exprB at hb
      rw [Bool.and_eq_true, decide_eq_true_eq] at hb
      exact hb.1
    · simp
  · simp
theorem toksO_next (ws : List ByteArray) (k : Nat) (hk : k < ws.length) (l : List TokL) (h : toksO (ws.take k) = some l) (hs : (ptS ws[k]).2 = true) : toksO (ws.take (k + 1)) = some (l ++ [(ptS ws[k]).1]) := by
  rw [List.take_succ_eq_append_getElem hk]
  exact toksO_snoc _ _ _ h hs
theorem toksO_stop (ws : List ByteArray) (k : Nat) (hk : k < ws.length) (hs : (ptS ws[k]).2 = false) : toksO ws = none := by
  have e : ws = ws.take k ++ ws[k] :: ws.drop (k + 1) := by rw [← List.drop_eq_getElem_cons hk, List.take_append_drop]
  rw [e]
  exact toksO_fail _ _ _ hs
/-- A row of tokens and a yes or no were returned. -/
def TokRes (T B : Nat) (l : List TokL) (ok : Bool) (w : World) (e : Ending) (w' : World) : Prop :=
  ∃ v, e = .returned (.tuple #[v, .bool ok]) ∧ w'.ownsRow B T 3 v l.length (toksV l) ∧ Below w.heap.size w w'
end Go.Proofs.YtbdplcbmfcfigaaDoor
