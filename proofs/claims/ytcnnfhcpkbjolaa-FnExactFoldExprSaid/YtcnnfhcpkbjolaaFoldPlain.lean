/- Folding, plain: the folded segments of a list of tokens, from the right to the left. Nothing of the program. -/
import Derived.Test.YtcnnfhcpkbjolaaRunMore
import Derived.Test.YtcnnfhcpkbjolaaWrapPlain
namespace Go.Proofs.Ytcnnfhcpkbjolaa
open Go.RowKit Go.Lib

/-- A number's token. -/
def foldT (v : Int) : TokL := ⟨0, v, ⟨#[]⟩⟩
/-- A token and its folded operands, folded. -/
def seg1 (t : TokL) (ops : List (List TokL)) : List TokL := match ops.flatten with
  | [a, b] => if 2 ≤ t.kind ∧ t.kind ≤ 6 ∧ a.kind = 0 ∧ b.kind = 0 ∧ 0 ≤ appZ t.kind a.num b.num ∧ appZ t.kind a.num b.num ≤ 999 then [foldT (appZ t.kind a.num b.num)] else [t, a, b]
  | o => t :: o
/-- The folded expressions that stand one behind the other. -/
def segs : List TokL → List (List TokL)
  | [] => []
  | t :: r => seg1 t ((segs r).take (arN t)) :: (segs r).drop (arN t)
def foldE (l : List TokL) : List TokL := (segs l).headD []
theorem seg1_cases (t : TokL) (ops : List (List TokL)) : seg1 t ops = t :: ops.flatten ∨ ∃ a b, ops.flatten = [a, b] ∧ (2 ≤ t.kind ∧ t.kind ≤ 6) ∧ a.kind = 0 ∧ b.kind = 0 ∧ 0 ≤ appZ t.kind a.num b.num ∧ appZ t.kind a.num b.num ≤ 999 ∧ seg1 t ops = [foldT (appZ t.kind a.num b.num)] := by
  unfold seg1
  split
  · rename_i a b h
    split
    · rename_i hc
      exact .inr ⟨a, b, h, ⟨hc.1, hc.2.1⟩, hc.2.2.1, hc.2.2.2.1, hc.2.2.2.2.1, hc.2.2.2.2.2, rfl⟩
    · exact .inl (by rw [h])
  · exact .inl rfl
theorem seg1_pos (t : TokL) (ops : List (List TokL)) : 0 < (seg1 t ops).length := by
  rcases seg1_cases t ops with h | ⟨_, _, _, _, _, _, _, _, h⟩ <;> rw [h] <;> simp
/-- Behind m expressions the segments are those of what is left. -/
theorem segs_scan (l : List TokL) : ∀ m q, scanN l m = some q → m ≤ (segs l).length ∧ (segs l).drop m = segs (l.drop q) := by
  induction l with
  | nil =>
    intro m q h
    cases m with
    | zero => rw [scanN] at h; injection h with h; subst h; exact ⟨Nat.zero_le _, rfl⟩
    | succ m => rw [scanN] at h; cases h
  | cons t r ih =>
    intro m q h
    cases m with
    | zero => rw [scanN] at h; injection h with h; subst h; exact ⟨Nat.zero_le _, rfl⟩
    | succ m =>
      rw [scanN] at h
      split at h
      · cases hr : scanN r (m + (arZ t).toNat) with
        | none => rw [hr] at h; cases h
        | some q' =>
          rw [hr] at h
          injection h with h
          subst h
          obtain ⟨h1, h2⟩ := ih _ _ hr
          refine ⟨?_, ?_⟩
          · have : arN t = (arZ t).toNat := rfl
            simp only [segs, List.length_cons, List.length_drop]
            omega
          · have : arN t = (arZ t).toNat := rfl
            simp only [segs, List.drop_succ_cons, List.drop_drop]
            rw [this, Nat.add_comm (arZ t).toNat m]
            exact h2
      · cases h
theorem scan_num (v : Int) (h0 : 0 ≤ v) (h1 : v ≤ 999) (tl : List TokL) (k : Nat) : scanN (foldT v :: tl) (k + 1) = (scanN tl k).map (· + 1) := by
  have hb : tokB (foldT v) = true := by
    show tokB ⟨0, v, ⟨#[]⟩⟩ = true
    rw [tokB_0, decide_eq_true h0, decide_eq_true h1]
    rfl
  rw [scanN, if_pos hb]
  have : arZ (foldT v) = 0 := arZ_0 _ _ hb
  rw [this]
  rfl
/-- A list that is one expression. -/
def OneE (x : List TokL) : Prop := ∀ tl k, scanN (x ++ tl) (k + 1) = (scanN tl k).map (· + x.length)
theorem one_flat (L : List (List TokL)) (h : ∀ x ∈ L, OneE x) : ∀ tl k, scanN (L.flatten ++ tl) (k + L.length) = (scanN tl k).map (· + L.flatten.length) := by
  induction L with
  | nil => intro tl k; simp
  | cons x r ih =>
    intro tl k
    rw [List.flatten_cons, List.append_assoc, List.length_cons, ← Nat.add_assoc, h x (List.mem_cons_self ..), ih (fun y hy => h y (List.mem_cons_of_mem _ hy))]
    cases scanN tl k with
    | none => rfl
    | some z => simp; omega
theorem one_seg (t : TokL) (ops : List (List TokL)) (hb : tokB t = true) (hl : ops.length = arN t) (h : ∀ x ∈ ops, OneE x) : OneE (seg1 t ops) := fun tl k => by
  rcases seg1_cases t ops with hs | ⟨a, b, hab, hk, ha, hb0, h0, h1, hs⟩
  · rw [hs, List.cons_append, scanN, if_pos hb]
    have := one_flat ops h tl k
    rw [hl] at this
    have e : (arZ t).toNat = arN t := rfl
    rw [e, this]
    cases scanN tl k with
    | none => rfl
    | some z => simp; omega
  · rw [hs]
    exact scan_num _ h0 h1 tl k
/-- The segments of m expressions are expressions. -/
theorem segs_one (l : List TokL) : ∀ m q, scanN l m = some q → ∀ x ∈ (segs l).take m, OneE x := by
  induction l with
  | nil =>
    intro m q h x hx
    cases m with
    | zero => simp at hx
    | succ m => rw [scanN] at h; cases h
  | cons t r ih =>
    intro m q h x hx
    cases m with
    | zero => simp at hx
    | succ m =>
      rw [scanN] at h
      split at h
      · rename_i hb
        cases hr : scanN r (m + (arZ t).toNat) with
        | none => rw [hr] at h; cases h
        | some q' =>
          have hr' : scanN r (arN t + m) = some q' := by rw [Nat.add_comm]; exact hr
          have hle := (segs_scan r _ _ hr').1
          have hsplit : (segs r).take (arN t + m) = (segs r).take (arN t) ++ ((segs r).drop (arN t)).take m := List.take_add
          have hall := ih _ _ hr'
          rw [hsplit] at hall
          have hT : (segs (t :: r)).take (m + 1) = seg1 t ((segs r).take (arN t)) :: ((segs r).drop (arN t)).take m := by simp [segs]
          rw [hT] at hx
          rcases List.mem_cons.1 hx with rfl | hx
          · exact one_seg t _ hb (by rw [List.length_take]; omega) (fun y hy => hall y (List.mem_append_left _ hy))
          · exact hall x (List.mem_append_right _ hx)
      · cases h
/-- What an expression folds to is an expression, no longer than it was. -/
theorem segs_expr (l : List TokL) (h : scanN l 1 = some l.length) : segs l = [foldE l] ∧ OneE (foldE l) := by
  obtain ⟨h1, h2⟩ := segs_scan l 1 _ h
  rw [List.drop_length] at h2
  have h3 := segs_one l 1 _ h
  unfold foldE
  cases hs : segs l with
  | nil => rw [hs] at h1; simp at h1
  | cons x r =>
    rw [hs] at h2 h3
    simp only [List.drop_succ_cons, List.drop_zero] at h2
    have : r = [] := h2
    subst this
    exact ⟨rfl, h3 x (by simp)⟩
end Go.Proofs.Ytcnnfhcpkbjolaa
