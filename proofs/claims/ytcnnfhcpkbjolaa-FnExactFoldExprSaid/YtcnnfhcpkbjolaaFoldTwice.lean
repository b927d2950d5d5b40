/- Folding, plain: what is folded is folded for good, and it is no longer than it was. Nothing of the program. -/
import Derived.Test.YtcnnfhcpkbjolaaFoldKept
namespace Go.Proofs.Ytcnnfhcpkbjolaa
open Go.RowKit Go.Lib

theorem seg1_num (v : Int) : seg1 (foldT v) [] = [foldT v] := rfl
theorem arN_num (v : Int) (h0 : 0 ≤ v) (h1 : v ≤ 999) : arN (foldT v) = 0 := by
  have hb : tokB (foldT v) = true := by
    show tokB ⟨0, v, ⟨#[]⟩⟩ = true
    rw [tokB_0, decide_eq_true h0, decide_eq_true h1]
    rfl
  unfold arN
  have : arZ (foldT v) = 0 := arZ_0 _ _ hb
  rw [this]
  rfl
/-- Segments that are folded already. -/
theorem segs_again : ∀ (n : Nat) (l : List TokL), l.length ≤ n → ∀ (m q : Nat) (tl : List TokL), scanN l m = some q → segs (((segs l).take m).flatten ++ tl) = (segs l).take m ++ segs tl := by
  intro n
  induction n with
  | zero =>
    intro l hl m q tl h
    have : l = [] := List.length_eq_zero_iff.1 (by omega)
    subst this
    cases m with
    | zero => rfl
    | succ m => rw [scanN] at h; cases h
  | succ n ih =>
    intro l hl m q tl h
    cases m with
    | zero => simp
    | succ m =>
      cases l with
      | nil => rw [scanN] at h; cases h
      | cons t r =>
        have hr : r.length ≤ n := by simpa using hl
        rw [scanN] at h
        split at h
        · cases hs : scanN r (m + (arZ t).toNat) with
          | none => rw [hs] at h; cases h
          | some q' =>
            have hs' : scanN r (arN t + m) = some q' := by rw [Nat.add_comm]; exact hs
            have hle := (segs_scan r _ _ hs').1
            have hsplit : (segs r).take (arN t + m) = (segs r).take (arN t) ++ ((segs r).drop (arN t)).take m := List.take_add
            have hT : (segs (t :: r)).take (m + 1) = seg1 t ((segs r).take (arN t)) :: ((segs r).drop (arN t)).take m := by simp [segs]
            have hlen : ((segs r).take (arN t)).length = arN t := by rw [List.length_take]; omega
            rw [hT, List.flatten_cons]
            rcases seg1_cases t ((segs r).take (arN t)) with hc | ⟨a, b, _, _, _, _, h0, h1, hc⟩
            · have h2 := ih r hr _ _ tl hs'
              have hX : (seg1 t ((segs r).take (arN t)) ++ (((segs r).drop (arN t)).take m).flatten) ++ tl = t :: (((segs r).take (arN t + m)).flatten ++ tl) := by
                rw [hc, hsplit, List.flatten_append]
                simp
              rw [hX, segs, h2, hsplit, List.append_assoc, List.take_left' hlen, List.drop_left' hlen, List.cons_append]
            · have hX : (seg1 t ((segs r).take (arN t)) ++ (((segs r).drop (arN t)).take m).flatten) ++ tl = foldT (appZ t.kind a.num b.num) :: ((((segs r).drop (arN t)).take m).flatten ++ tl) := by
                rw [hc]
                simp
              rw [hX, segs, arN_num _ h0 h1, List.take_zero, List.drop_zero, seg1_num, hc, List.cons_append]
              congr 1
              rw [scan_add] at hs'
              cases hq1 : scanN r (arN t) with
              | none => rw [hq1] at hs'; cases hs'
              | some q1 =>
                rw [hq1] at hs'
                simp only [Option.bind_some, Option.map_eq_some_iff] at hs'
                obtain ⟨q2, hq2, _⟩ := hs'
                rw [(segs_scan r _ _ hq1).2]
                exact ih (r.drop q1) (by rw [List.length_drop]; omega) m q2 tl hq2
        · cases h
theorem fold_again (l : List TokL) (h : scanN l 1 = some l.length) : foldE (foldE l) = foldE l := by
  have hs := (segs_expr l h).1
  have h2 := segs_again l.length l (Nat.le_refl _) 1 _ [] h
  rw [hs] at h2
  simp only [List.take_succ_cons, List.take_zero, List.flatten_cons, List.flatten_nil, List.append_nil] at h2
  unfold foldE at h2 ⊢
  rw [h2]
  rfl
/-- Not longer. -/
theorem seg1_len (t : TokL) (ops : List (List TokL)) : (seg1 t ops).length ≤ ops.flatten.length + 1 := by
  rcases seg1_cases t ops with h | ⟨_, _, _, _, _, _, _, _, h⟩ <;> rw [h] <;> simp
theorem segs_len (l : List TokL) : (segs l).flatten.length ≤ l.length := by
  induction l with
  | nil => simp [segs]
  | cons t r ih =>
    have h1 := seg1_len t ((segs r).take (arN t))
    have h2 : (segs r).flatten.length = ((segs r).take (arN t)).flatten.length + ((segs r).drop (arN t)).flatten.length := by
      rw [← List.length_append, ← List.flatten_append, List.take_append_drop]
    rw [segs, List.flatten_cons, List.length_append, List.length_cons]
    omega
theorem foldE_len (l : List TokL) : (foldE l).length ≤ l.length := by
  have := segs_len l
  unfold foldE
  cases hs : segs l with
  | nil => simp
  | cons x r =>
    rw [hs, List.flatten_cons, List.length_append] at this
    simp only [List.headD_cons]
    omega
/-- The tokens are the old ones, or numbers. -/
theorem seg1_mem (t : TokL) (ops : List (List TokL)) : ∀ x ∈ seg1 t ops, x = t ∨ x ∈ ops.flatten ∨ ∃ v, 0 ≤ v ∧ v ≤ 999 ∧ x = foldT v := by
  intro x hx
  rcases seg1_cases t ops with h | ⟨_, _, _, _, _, _, h0, h1, h⟩
  · rw [h] at hx
    rcases List.mem_cons.1 hx with rfl | hx
    · exact .inl rfl
    · exact .inr (.inl hx)
  · rw [h] at hx
    exact .inr (.inr ⟨_, h0, h1, List.mem_singleton.1 hx⟩)
theorem segs_mem (l : List TokL) : ∀ z ∈ segs l, ∀ x ∈ z, x ∈ l ∨ ∃ v, 0 ≤ v ∧ v ≤ 999 ∧ x = foldT v := by
  induction l with
  | nil => intro z h; cases h
  | cons t r ih =>
    intro z h x hx
    have hr : ∀ z ∈ segs r, ∀ x ∈ z, x ∈ t :: r ∨ ∃ v, 0 ≤ v ∧ v ≤ 999 ∧ x = foldT v := fun z hz x hx => by
      rcases ih z hz x hx with h | h
      · exact .inl (List.mem_cons_of_mem _ h)
      · exact .inr h
    rcases List.mem_cons.1 h with rfl | h
    · rcases seg1_mem _ _ x hx with rfl | h | h
      · exact .inl (List.mem_cons_self ..)
      · obtain ⟨z, hz, hx⟩ := List.mem_flatten.1 h
        exact hr z (List.mem_of_mem_take hz) x hx
      · exact .inr h
    · exact hr z (List.mem_of_mem_drop h) x hx
theorem foldE_mem (l : List TokL) : ∀ x ∈ foldE l, x ∈ l ∨ ∃ v, 0 ≤ v ∧ v ≤ 999 ∧ x = foldT v := by
  intro x hx
  unfold foldE at hx
  cases hs : segs l with
  | nil => rw [hs] at hx; cases hx
  | cons z r =>
    rw [hs] at hx
    exact segs_mem l z (by rw [hs]; exact List.mem_cons_self ..) x hx
/-- An expression folds to an expression. -/
theorem exprB_scan (l : List TokL) : exprB l = true ↔ l.length ≤ 20 ∧ scanN l 1 = some l.length := by
  unfold exprB endZ
  rw [Bool.and_eq_true, decide_eq_true_eq, decide_eq_true_eq, if_neg (by decide)]
  refine and_congr_right fun _ => ?_
  simp only [Int.toNat_zero, List.drop_zero]
  cases scanN l 1 with
  | none => simp [resZ] <;> omega
  | some q => simp [resZ] <;> omega
theorem exprB_fold (l : List TokL) (h : exprB l = true) : exprB (foldE l) = true := by
  rw [exprB_scan] at h ⊢
  refine ⟨by have := foldE_len l; omega, ?_⟩
  have := (segs_expr l h.2).2 [] 0
  rw [List.append_nil] at this
  rw [this]
  simp [scanN]
theorem foldE_nil : foldE [] = [] := rfl
theorem lineB_fold (x : PLine) (h : lineB x = true) : lineB (foldL x) = true := by
  rw [lineB_iff] at h ⊢
  refine ⟨h.1, h.2.1, h.2.2.1, ?_⟩
  have h4 := h.2.2.2
  show efB (exprK x.kind) (foldE x.expr) = true
  unfold efB at h4 ⊢
  split at h4
  · rw [if_pos (by assumption)]; exact exprB_fold _ h4
  · rw [if_neg (by assumption)]
    rw [decide_eq_true_eq] at h4 ⊢
    rw [List.length_eq_zero_iff.1 h4]
    rfl
theorem foldL_again (x : PLine) (h : lineB x = true) : foldL (foldL x) = foldL x := by
  have h4 := ((lineB_iff x).1 h).2.2.2
  unfold efB at h4
  have he : foldE (foldE x.expr) = foldE x.expr := by
    split at h4
    · exact fold_again _ ((exprB_scan _).1 h4).2
    · rw [decide_eq_true_eq] at h4
      rw [List.length_eq_zero_iff.1 h4]
      rfl
  show (⟨x.kind, x.name, x.args, foldE (foldE x.expr)⟩ : PLine) = ⟨x.kind, x.name, x.args, foldE x.expr⟩
  rw [he]
theorem foldP_again (p : List PLine) (h : ∀ x ∈ p, lineB x = true) : foldP (foldP p) = foldP p := by
  unfold foldP
  rw [List.map_map]
  exact List.map_congr_left fun x hx => foldL_again x (h x hx)
/-- A program that makes sense folds to one. -/
theorem followF_fold (p : List PLine) (l : List Nat) : ∀ n, followF (foldP p) n l ↔ followF p n l := by
  induction l with
  | nil => intro n; show n = ((foldP p).length : Int) ↔ n = (p.length : Int); rw [foldP_length]
  | cons k r ih => intro n; rw [followF, followF, beZ_fold, ih]
theorem nestF_fold (l : List PLine) : ∀ o, nestF o (foldP l) ↔ nestF o l := by
  induction l with
  | nil => intro o; exact Iff.rfl
  | cons x r ih =>
    intro o
    have e : foldP (x :: r) = foldL x :: foldP r := rfl
    have hk : (foldL x).kind = x.kind := rfl
    rw [e, nestF, nestF, hk, ih]
theorem elsesF_fold (p : List PLine) (l : List PLine) : ∀ i, elsesF (foldP p) i (foldP l) ↔ elsesF p i l := by
  induction l with
  | nil => intro i; exact Iff.rfl
  | cons x r ih =>
    intro i
    have e : foldP (x :: r) = foldL x :: foldP r := rfl
    have hk : (foldL x).kind = x.kind := rfl
    rw [e, elsesF, elsesF, hk, ih]
    simp only [elseZ_fold]
theorem ok_fold {p : List PLine} (h : OkI p) : OkI (foldP p) := by
  obtain ⟨⟨h1, h2⟩, ⟨h3, h4, h5, h6⟩, h7, h8, h9, h10⟩ := h
  refine ⟨⟨by rw [foldP_length]; exact h1, fun x hx => ?_⟩, ⟨by rw [funs_fold]; exact h3, by rw [findZ_fold]; exact h4, by rw [argsZ_fold]; exact h5, fun k hk hl => ?_⟩, by rw [followF_fold, funs_fold]; exact h7, (nestF_fold p 0).2 h8, (elsesF_fold p p 0).2 h9, fun k hk => ?_⟩
  · obtain ⟨y, hy, rfl⟩ := List.mem_map.1 hx
    exact lineB_fold y (h2 y hy)
  · rw [funs_fold] at hk
    have hl' : k < p.length := by rw [foldP_length] at hl; exact hl
    rw [findZ_fold, foldP_get p k hl hl']
    exact h6 k hk hl'
  · rw [funs_fold] at hk
    obtain ⟨a, b⟩ := h10 k hk
    refine ⟨by rw [locZ_fold]; exact a, fun x hx t ht => ?_⟩
    rw [beZ_fold] at hx
    rw [knownP_fold, locZ_fold]
    have hx' : x ∈ foldP (segZ p k (beZ p k).toNat) := by
      unfold segZ at hx ⊢
      rw [← foldP_take, ← foldP_drop]
      exact hx
    obtain ⟨y, hy, rfl⟩ := List.mem_map.1 hx'
    rcases foldE_mem y.expr t ht with h | ⟨v, _, _, rfl⟩
    · exact b y hy t h
    · exact ⟨fun h => absurd h (by show ¬ (0 : Int) = 1; decide), fun h => absurd h (by show ¬ (0 : Int) = 7; decide)⟩
/-- How many tokens. -/
def cntP (p : List PLine) : Nat := (p.map fun x => x.expr.length).sum
theorem cntP_fold (p : List PLine) : cntP (foldP p) ≤ cntP p := by
  induction p with
  | nil => exact Nat.le_refl _
  | cons x r ih =>
    have h1 : cntP (x :: r) = x.expr.length + cntP r := by simp [cntP]
    have h2 : cntP (foldP (x :: r)) = (foldE x.expr).length + cntP (foldP r) := by simp [cntP, foldP, foldL]
    have := foldE_len x.expr
    omega
end Go.Proofs.Ytcnnfhcpkbjolaa
