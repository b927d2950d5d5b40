/- Plain facts: Folding, plain: the folded segments of a list of tokens, from the right to the left; Folding, plain: what a run of a folded program is; Folding, plain: what hangs on the lines' kinds, names and arguments alone; Folding, plain: what is folded is folded for good, and it is no longer than it was; Folding, plain: the folded expression from an index on, operand by operand. Nothing of the program. -/
import Derived.Test.YtcnnfhcpkbjolaaDoorPlainR
import Derived.Test.YtcnnfhcpkbjolaaDoorWrapB
/-! Folding, plain: the folded segments of a list of tokens, from the right to the left. Nothing of the program -/
namespace Go.Proofs.YtcnnfhcpkbjolaaDoor
open Go.RowKit Go.Lib

/-- A number's token. -/
def foldT (v : Int) : TokL := ⟨0, v, ⟨#[]⟩⟩
/-- A token and its folded operands, folded. -/
def seg1 (t : TokL) (ops : List (List TokL)) : List TokL := match ops.flatten with
  | [a, b] => if 2 ≤ t.kind ∧ t.kind ≤ 6 ∧ a.kind = 0 ∧ b.kind = 0 ∧ 0 ≤ appZ t.kind a.num b.num ∧ appZ t.kind a.num b.num ≤ 999 then [foldT (appZ t.kind a.num b.num)] else [t, a, b]
  | o => t :: o
/-- The folded expressions that stand one behind the other. -/
def segs : List TokL → List (List TokL)
  | [] => []
  | t :: r => seg1 t ((segs r).take (arN t)) :: (segs r).drop (arN t)
def foldE (l : List TokL) : List TokL := (segs l).headD []
theorem seg1_cases (t : TokL) (ops : List (List TokL)) : seg1 t ops = t :: ops.flatten ∨ ∃ a b, ops.flatten = [a, b] ∧ (2 ≤ t.kind ∧ t.kind ≤ 6) ∧ a.kind = 0 ∧ b.kind = 0 ∧ 0 ≤ appZ t.kind a.num b.num ∧ appZ t.kind a.num b.num ≤ 999 ∧ seg1 t ops = [foldT (appZ t.kind a.num b.num)] := by
  unfold seg1
  split
  · rename_i a b h
    split
    · rename_i hc
      exact .inr ⟨a, b, h, ⟨hc.1, hc.2.1⟩, hc.2.2.1, hc.2.2.2.1, hc.2.2.2.2.1, hc.2.2.2.2.2, rfl⟩
    · exact .inl (by rw [h])
  · exact .inl rfl
theorem seg1_pos (t : TokL) (ops : List (List TokL)) : 0 < (seg1 t ops).length := by
  rcases seg1_cases t ops with h | ⟨_, _, _, _, _, _, _, _, h⟩ <;> rw [h] <;> simp
/-- Behind m expressions the segments are those of what is left. -/
theorem segs_scan (l : List TokL) : ∀ m q, scanN l m = some q → m ≤ (segs l).length ∧ (segs l).drop m = segs (l.drop q) := by
  induction l with
  | nil =>
    intro m q h
    cases m with
    | zero => rw [scanN] at h; injection h with h; subst h; exact ⟨Nat.zero_le _, rfl⟩
    | succ m => rw [scanN] at h; cases h
  | cons t r ih =>
    intro m q h
    cases m with
    | zero => rw [scanN] at h; injection h with h; subst h; exact ⟨Nat.zero_le _, rfl⟩
    | succ m =>
      rw [scanN] at h
      split at h
      · cases hr : scanN r (m + (arZ t).toNat) with
        | none => rw [hr] at h; cases h
        | some q' =>
          rw [hr] at h
          injection h with h
          subst h
          obtain ⟨h1, h2⟩ := ih _ _ hr
          refine ⟨?_, ?_⟩
          · have : arN t = (arZ t).toNat := rfl
            simp only [segs, List.length_cons, List.length_drop]
            omega
          · have : arN t = (arZ t).toNat := rfl
            simp only [segs, List.drop_succ_cons, List.drop_drop]
            rw [this, Nat.add_comm (arZ t).toNat m]
            exact h2
      · cases h
theorem scan_num (v : Int) (h0 : 0 ≤ v) (h1 : v ≤ 999) (tl : List TokL) (k : Nat) : scanN (foldT v :: tl) (k + 1) = (scanN tl k).map (· + 1) := by
  have hb : tokB (foldT v) = true := by
    show tokB ⟨0, v, ⟨#[]⟩⟩ = true
    rw [tokB_0, decide_eq_true h0, decide_eq_true h1]
    rfl
  rw [scanN, if_pos hb]
  have : arZ (foldT v) = 0 := arZ_0 _ _ hb
  rw [this]
  rfl
/-- A list that is one expression. -/
def OneE (x : List TokL) : Prop := ∀ tl k, scanN (x ++ tl) (k + 1) = (scanN tl k).map (· + x.length)
theorem one_flat (L : List (List TokL)) (h : ∀ x ∈ L, OneE x) : ∀ tl k, scanN (L.flatten ++ tl) (k + L.length) = (scanN tl k).map (· + L.flatten.length) := by
  induction L with
  | nil => intro tl k; simp
  | cons x r ih =>
    intro tl k
    rw [List.flatten_cons, List.append_assoc, List.length_cons, ← Nat.add_assoc, h x (List.mem_cons_self ..), ih (fun y hy => h y (List.mem_cons_of_mem _ hy))]
    cases scanN tl k with
    | none => rfl
    | some z => simp; omega
theorem one_seg (t : TokL) (ops : List (List TokL)) (hb : tokB t = true) (hl : ops.length = arN t) (h : ∀ x ∈ ops, OneE x) : OneE (seg1 t ops) := fun tl k => by
  rcases seg1_cases t ops with hs | ⟨a, b, hab, hk, ha, hb0, h0, h1, hs⟩
  · rw [hs, List.cons_append, scanN, if_pos hb]
    have := one_flat ops h tl k
    rw [hl] at this
    have e : (arZ t).toNat = arN t := rfl
    rw [e, this]
    cases scanN tl k with
    | none => rfl
    | some z => simp; omega
  · rw [hs]
    exact scan_num _ h0 h1 tl k
/-- The segments of m expressions are expressions. -/
theorem segs_one (l : List TokL) : ∀ m q, scanN l m = some q → ∀ x ∈ (segs l).take m, OneE x := by
  induction l with
  | nil =>
    intro m q h x hx
    cases m with
    | zero => simp at hx
    | succ m => rw [scanN] at h; cases h
  | cons t r ih =>
    intro m q h x hx
    cases m with
    | zero => simp at hx
    | succ m =>
      rw [scanN] at h
      split at h
      · rename_i hb
        cases hr : scanN r (m + (arZ t).toNat) with
        | none => rw [hr] at h; cases h
        | some q' =>
          have hr' : scanN r (arN t + m) = some q' := by rw [Nat.add_comm]; exact hr
          have hle := (segs_scan r _ _ hr').1
          have hsplit : (segs r).take (arN t + m) = (segs r).take (arN t) ++ ((segs r).drop (arN t)).take m := List.take_add
          have hall := ih _ _ hr'
          rw [hsplit] at hall
          have hT : (segs (t :: r)).take (m + 1) = seg1 t ((segs r).take (arN t)) :: ((segs r).drop (arN t)).take m := by simp [segs]
          rw [hT] at hx
          rcases List.mem_cons.1 hx with rfl | hx
          · exact one_seg t _ hb (by rw [List.length_take]; omega) (fun y hy => hall y (List.mem_append_left _ hy))
          · exact hall x (List.mem_append_right _ hx)
      · cases h
/-- What an expression folds to is an expression, no longer than it was. -/
theorem segs_expr (l : List TokL) (h : scanN l 1 = some l.length) : segs l = [foldE l] ∧ OneE (foldE l) := by
  obtain ⟨h1, h2⟩ := segs_scan l 1 _ h
  rw [List.drop_length] at h2
  have h3 := segs_one l 1 _ h
  unfold foldE
  cases hs : segs l with
  | nil => rw [hs] at h1; simp at h1
  | cons x r =>
    rw [hs] at h2 h3
    simp only [List.drop_succ_cons, List.drop_zero] at h2
    have : r = [] := h2
    subst this
    exact ⟨rfl, h3 x (by simp)⟩
end Go.Proofs.YtcnnfhcpkbjolaaDoor

/-! Folding, plain: what a run of a folded program is. Nothing of the program -/
namespace Go.Proofs.YtcnnfhcpkbjolaaDoor
open Go.RowKit Go.Lib

/-- Two segments that hold two tokens together hold one each. -/
theorem two_segs {L : List (List TokL)} {x y : TokL} (hl : L.length = 2) (h : ∀ z ∈ L, 0 < z.length) (hf : L.flatten = [x, y]) : L = [[x], [y]] := by
  match L, hl with
  | [a, b], _ =>
    have ha := h a (by simp)
    have hb := h b (by simp)
    match a, b, ha, hb with
    | a1 :: ar, b1 :: br, _, _ =>
      simp only [List.flatten_cons, List.flatten_nil, List.append_nil, List.cons_append] at hf
      injection hf with h1 h2
      subst h1
      cases ar with
      | nil =>
        simp only [List.nil_append] at h2
        rw [h2]
      | cons c cr =>
        have := congrArg List.length h2
        simp at this
theorem segs_pos (l : List TokL) : ∀ z ∈ segs l, 0 < z.length := by
  induction l with
  | nil => intro z h; cases h
  | cons t r ih =>
    intro z h
    rcases List.mem_cons.1 h with rfl | h
    · exact seg1_pos _ _
    · exact ih z (List.mem_of_mem_drop h)
/-- What folds to a number hands back that number, and does nothing else. -/
theorem pure_num {p : List PLine} {lim : Nat} : ∀ (n : Nat) (c : List Int) (k : Nat) (L : List ByteArray) (vs : List Int) (i : Nat) (s : RunS) (r : RunRes) (s' : RunS) (a : TokL) (rest : List (List TokL)) (q : Nat),
    runF p appZ arN lim n (.eval c k L vs i) s = some (r, s') → scanN ((exprAt p k).drop i) 1 = some q → segs ((exprAt p k).drop i) = [a] :: rest → a.kind = 0 → r = .val a.num (i + q) ∧ s' = s := by
  intro n
  induction n using Nat.strongRecOn with
  | ind n ih =>
    intro c k L vs i s r s' a rest q hrun hq hseg ha
    cases n with
    | zero => exact (no_fuel hrun).elim
    | succ n =>
      obtain ⟨hil, htb, q', hqq, hargs⟩ := scan_one _ _ _ hq
      have htk := tokAt_get p k i hil
      obtain ⟨t, ht⟩ : ∃ t, tokAt p k i = t := ⟨_, rfl⟩
      obtain ⟨r1, s1, hr1, hcase⟩ := eval_inv hrun
      rw [ht] at hr1 hcase htk
      rw [← htk] at htb hargs
      rw [List.drop_eq_getElem_cons hil, ← htk, segs] at hseg
      injection hseg with hs1 hs2
      rcases seg1_cases t ((segs ((exprAt p k).drop (i + 1))).take (arN t)) with hc | ⟨x, y, hxy, hk, hx, hy, h0, h1, hc⟩
      · rw [hc] at hs1
        injection hs1 with hta hfl
        subst hta
        have har : arN t = 0 := by
          unfold arN
          obtain ⟨tk, tn, tm⟩ := t
          dsimp only at ha
          subst ha
          rw [arZ_0 _ _ htb]
          rfl
        rw [har] at hr1 hargs
        have hz := args_done hr1
        injection hz with h1 h2
        subst h1 h2
        have hq0 : q' = 0 := by
          have : scanN ((exprAt p k).drop (i + 1)) 0 = some 0 := by cases (exprAt p k).drop (i + 1) <;> rfl
          rw [this] at hargs
          injection hargs with h
          exact h.symm
        rcases hcase with ⟨_, h, _⟩ | ⟨ws, i1, hv, _, _, h0, _⟩
        · cases h
        · injection hv with hv1 hv2
          subst hv2
          have := h0 ha
          injection this with hr hs
          exact ⟨by rw [hr, hqq, hq0], hs⟩
      · rw [hc] at hs1
        injection hs1 with hta _
        have har : arN t = 2 := by
          unfold arN
          obtain ⟨tk, tn, tm⟩ := t
          dsimp only at hk
          rw [arZ_op _ _ _ htb (by omega) (by omega) (by omega)]
          rfl
        rw [har] at hr1 hargs hxy hcase
        obtain ⟨hsl, hsd⟩ := segs_scan _ _ _ hargs
        have htw := two_segs (by rw [List.length_take]; omega) (fun z hz => segs_pos _ z (List.mem_of_mem_take hz)) hxy
        obtain ⟨q1, q2, hq1, hq2, hq12⟩ := scan_next _ _ _ _ hargs
        obtain ⟨rs, hrs⟩ : ∃ rs, segs ((exprAt p k).drop (i + 1)) = [x] :: [y] :: rs := by
          have := List.take_append_drop 2 (segs ((exprAt p k).drop (i + 1)))
          rw [htw] at this
          exact ⟨_, this.symm⟩
        have hd1 := (segs_scan _ _ _ hq1).2
        rw [hrs] at hd1
        simp only [List.drop_succ_cons, List.drop_zero, List.drop_drop] at hd1
        have hdrop : (exprAt p k).drop (i + 1 + q1) = ((exprAt p k).drop (i + 1)).drop q1 := by rw [List.drop_drop]
        cases n with
        | zero => exact (no_fuel hr1).elim
        | succ n =>
          obtain ⟨re, se, hre, hcs⟩ := args_inv hr1
          have he := ih n (by omega) c k L vs (i + 1) s re se x _ q1 hre hq1 hrs hx
          obtain ⟨rfl, rfl⟩ := he
          rcases hcs with ⟨_, h, _⟩ | ⟨v, i1, hv, r2, s2, h2, hz⟩
          · cases h
          injection hv with hv1 hv2
          subst hv1 hv2
          cases n with
          | zero => exact (no_fuel h2).elim
          | succ n =>
            obtain ⟨rf, sf, hrf, hcf⟩ := args_inv h2
            have hq2' : ∃ q3, scanN ((exprAt p k).drop (i + 1 + q1)) 1 = some q3 ∧ q3 = q2 := by
              exact ⟨q2, hq2, rfl⟩
            obtain ⟨q3, hq3, rfl⟩ := hq2'
            have he2 := ih n (by omega) c k L vs (i + 1 + q1) se rf sf y rs q3 hrf hq3 hd1.symm hy
            obtain ⟨rfl, rfl⟩ := he2
            rcases hcf with ⟨_, h, _⟩ | ⟨v, i1, hv, r3, s3, h3, hz3⟩
            · cases h
            injection hv with hv1 hv2
            subst hv1 hv2
            have hz4 := args_done h3
            injection hz4 with h5 h6
            subst h5 h6
            injection hz3 with e31 e32
            subst e31 e32
            injection hz with hz1 hz2
            subst hz1 hz2
            rcases hcase with ⟨_, h, _⟩ | ⟨ws, i1, hv, _, _, _, _, _, _, hop⟩
            · cases h
            · injection hv with hv1 hv2
              subst hv1 hv2
              have := hop (by omega) (by omega) (by omega)
              injection this with hr hs
              refine ⟨?_, hs⟩
              rw [hr, ← hta]
              show RunRes.val (appZ t.kind _ _) _ = RunRes.val (appZ t.kind x.num y.num) _
              simp only [List.nil_append, List.cons_append, List.append_nil, List.getElem?_cons_zero, List.getElem?_cons_succ, Option.getD_some]
              congr 1
              omega
end Go.Proofs.YtcnnfhcpkbjolaaDoor

/-! Folding, plain: what hangs on the lines' kinds, names and arguments alone. Nothing of the program -/
namespace Go.Proofs.YtcnnfhcpkbjolaaDoor
open Go.RowKit Go.Lib

/-- The program with its expressions folded. -/
def foldL (x : PLine) : PLine := ⟨x.kind, x.name, x.args, foldE x.expr⟩
def foldP (p : List PLine) : List PLine := p.map foldL
theorem foldP_length (p : List PLine) : (foldP p).length = p.length := by simp [foldP]
theorem foldP_get (p : List PLine) (k : Nat) (h : k < (foldP p).length) (h' : k < p.length) : (foldP p)[k] = foldL p[k] := by simp [foldP]
theorem foldP_at (p : List PLine) (k : Nat) : (foldP p)[k]? = (p[k]?).map foldL := by simp [foldP]
theorem foldP_drop (p : List PLine) (k : Nat) : (foldP p).drop k = foldP (p.drop k) := by simp [foldP, List.map_drop]
theorem foldP_take (p : List PLine) (k : Nat) : (foldP p).take k = foldP (p.take k) := by simp [foldP, List.map_take]
theorem endF_fold (l : List PLine) : ∀ o i, endF o i (foldP l) = endF o i l := by
  induction l with
  | nil => intro o i; rfl
  | cons x r ih =>
    intro o i
    have e : foldP (x :: r) = foldL x :: foldP r := rfl
    have hk : (foldL x).kind = x.kind := rfl
    rw [e, endF, endF, hk, ih]
theorem lkZ_fold (p : List PLine) (k : Int) : lkZ (foldP p) k = lkZ p k := by
  unfold lkZ
  rw [foldP_at]
  cases p[k.toNat]? <;> rfl
theorem beZ_fold (p : List PLine) (k : Int) : beZ (foldP p) k = beZ p k := by
  unfold beZ
  rw [foldP_length, lkZ_fold, foldP_drop, endF_fold]
theorem elseF_fold (p : List PLine) (e : Int) : ∀ n i, elseF (foldP p) e n i = elseF p e n i := by
  intro n
  induction n with
  | zero => intro i; rfl
  | succ n ih => intro i; rw [elseF, elseF, lkZ_fold]; simp only [beZ_fold, ih]
theorem elseZ_fold (p : List PLine) (k : Int) : elseZ (foldP p) k = elseZ p k := by
  unfold elseZ
  rw [beZ_fold, lkZ_fold, elseF_fold, foldP_length]
theorem funF_fold (l : List PLine) : ∀ i, funF i (foldP l) = funF i l := by
  induction l with
  | nil => intro i; rfl
  | cons x r ih =>
    intro i
    have e : foldP (x :: r) = foldL x :: foldP r := rfl
    have hk : (foldL x).kind = x.kind := rfl
    rw [e, funF, funF, hk, ih]
theorem funs_fold (p : List PLine) : funs (foldP p) = funs p := funF_fold p 0
theorem findF_fold (n : ByteArray) (l : List PLine) : ∀ i, findF n i (foldP l) = findF n i l := by
  induction l with
  | nil => intro i; rfl
  | cons x r ih =>
    intro i
    have e : foldP (x :: r) = foldL x :: foldP r := rfl
    have hk : (foldL x).kind = x.kind := rfl
    have hn : (foldL x).name = x.name := rfl
    rw [e, findF, findF, hk, hn, ih]
theorem findZ_fold (p : List PLine) (n : ByteArray) : findZ (foldP p) n = findZ p n := findF_fold n p 0
theorem locF_fold (l : List PLine) : ∀ v, locF v (foldP l) = locF v l := by
  induction l with
  | nil => intro v; rfl
  | cons x r ih =>
    intro v
    have e : foldP (x :: r) = foldL x :: foldP r := rfl
    have hk : (foldL x).kind = x.kind := rfl
    have hn : (foldL x).name = x.name := rfl
    rw [e, locF, locF, hk, hn]
    simp only [ih]
theorem argsZ_fold (p : List PLine) (k : Int) : argsZ (foldP p) k = argsZ p k := by
  unfold argsZ
  rw [foldP_at]
  cases p[k.toNat]? <;> rfl
theorem locZ_fold (p : List PLine) (k : Int) : locZ (foldP p) k = locZ p k := by
  unfold locZ
  rw [beZ_fold, lkZ_fold, argsZ_fold, foldP_drop, foldP_take, locF_fold]
theorem elseOpen_fold (p : List PLine) (k : Nat) : elseOpen (foldP p) k = elseOpen p k := by
  unfold elseOpen
  simp only [elseZ_fold]
theorem endOpen_fold (p : List PLine) (k : Nat) : endOpen (foldP p) k = endOpen p k := by
  unfold endOpen
  simp only [beZ_fold]
theorem callVars_fold (p : List PLine) (f : Nat) (ws : List Int) : callVars (foldP p) f ws = callVars p f ws := by
  unfold callVars
  rw [locZ_fold]
theorem knownP_fold (p : List PLine) (v : List ByteArray) (t : TokL) : knownP (foldP p) v t ↔ knownP p v t := by
  unfold knownP
  rw [findZ_fold, argsZ_fold]
theorem nameAt_fold (p : List PLine) (k : Nat) : nameAt (foldP p) k = nameAt p k := by
  unfold nameAt
  rw [foldP_at]
  cases p[k]? <;> rfl
theorem exprAt_fold (p : List PLine) (k : Nat) : exprAt (foldP p) k = foldE (exprAt p k) := by
  unfold exprAt
  rw [foldP_at]
  cases p[k]? <;> rfl
end Go.Proofs.YtcnnfhcpkbjolaaDoor

/-! Folding, plain: what is folded is folded for good, and it is no longer than it was. Nothing of the program -/
namespace Go.Proofs.YtcnnfhcpkbjolaaDoor
open Go.RowKit Go.Lib

theorem seg1_num (v : Int) : seg1 (foldT v) [] = [foldT v] := rfl
theorem arN_num (v : Int) (h0 : 0 ≤ v) (h1 : v ≤ 999) : arN (foldT v) = 0 := by
  have hb : tokB (foldT v) = true := by
    show tokB ⟨0, v, ⟨#[]⟩⟩ = true
    rw [tokB_0, decide_eq_true h0, decide_eq_true h1]
    rfl
  unfold arN
  have : arZ (foldT v) = 0 := arZ_0 _ _ hb
  rw [this]
  rfl
/-- Segments that are folded already. -/
theorem segs_again : ∀ (n : Nat) (l : List TokL), l.length ≤ n → ∀ (m q : Nat) (tl : List TokL), scanN l m = some q → segs (((segs l).take m).flatten ++ tl) = (segs l).take m ++ segs tl := by
  intro n
  induction n with
  | zero =>
    intro l hl m q tl h
    have : l = [] := List.length_eq_zero_iff.1 (by omega)
    subst this
    cases m with
    | zero => rfl
    | succ m => rw [scanN] at h; cases h
  | succ n ih =>
    intro l hl m q tl h
    cases m with
    | zero => simp
    | succ m =>
      cases l with
      | nil => rw [scanN] at h; cases h
      | cons t r =>
        have hr : r.length ≤ n := by simpa using hl
        rw [scanN] at h
        split at h
        · cases hs : scanN r (m + (arZ t).toNat) with
          | none => rw [hs] at h; cases h
          | some q' =>
            have hs' : scanN r (arN t + m) = some q' := by rw [Nat.add_comm]; exact hs
            have hle := (segs_scan r _ _ hs').1
            have hsplit : (segs r).take (arN t + m) = (segs r).take (arN t) ++ ((segs r).drop (arN t)).take m := List.take_add
            have hT : (segs (t :: r)).take (m + 1) = seg1 t ((segs r).take (arN t)) :: ((segs r).drop (arN t)).take m := by simp [segs]
            have hlen : ((segs r).take (arN t)).length = arN t := by rw [List.length_take]; omega
            rw [hT, List.flatten_cons]
            rcases seg1_cases t ((segs r).take (arN t)) with hc | ⟨a, b, _, _, _, _, h0, h1, hc⟩
            · have h2 := ih r hr _ _ tl hs'
              have hX : (seg1 t ((segs r).take (arN t)) ++ (((segs r).drop (arN t)).take m).flatten) ++ tl = t :: (((segs r).take (arN t + m)).flatten ++ tl) := by
                rw [hc, hsplit, List.flatten_append]
                simp
              rw [hX, segs, h2, hsplit, List.append_assoc, List.take_left' hlen, List.drop_left' hlen, List.cons_append]
            · have hX : (seg1 t ((segs r).take (arN t)) ++ (((segs r).drop (arN t)).take m).flatten) ++ tl = foldT (appZ t.kind a.num b.num) :: ((((segs r).drop (arN t)).take m).flatten ++ tl) := by
                rw [hc]
                simp
              rw [hX, segs, arN_num _ h0 h1, List.take_zero, List.drop_zero, seg1_num, hc, List.cons_append]
              congr 1
              rw [scan_add] at hs'
              cases hq1 : scanN r (arN t) with
              | none => rw [hq1] at hs'; cases hs'
              | some q1 =>
                rw [hq1] at hs'
                simp only [Option.bind_some, Option.map_eq_some_iff] at hs'
                obtain ⟨q2, hq2, _⟩ := hs'
                rw [(segs_scan r _ _ hq1).2]
                exact ih (r.drop q1) (by rw [List.length_drop]; omega) m q2 tl hq2
        · cases h
theorem fold_again (l : List TokL) (h : scanN l 1 = some l.length) : foldE (foldE l) = foldE l := by
  have hs := (segs_expr l h).1
  have h2 := segs_again l.length l (Nat.le_refl _) 1 _ [] h
  rw [hs] at h2
  simp only [List.take_succ_cons, List.take_zero, List.flatten_cons, List.flatten_nil, List.append_nil] at h2
  unfold foldE at h2 ⊢
  rw [h2]
  rfl
/-- Not longer. -/
theorem seg1_len (t : TokL) (ops : List (List TokL)) : (seg1 t ops).length ≤ ops.flatten.length + 1 := by
  rcases seg1_cases t ops with h | ⟨_, _, _, _, _, _, _, _, h⟩ <;> rw [h] <;> simp
theorem segs_len (l : List TokL) : (segs l).flatten.length ≤ l.length := by
  induction l with
  | nil => simp [segs]
  | cons t r ih =>
    have h1 := seg1_len t ((segs r).take (arN t))
    have h2 : (segs r).flatten.length = ((segs r).take (arN t)).flatten.length + ((segs r).drop (arN t)).flatten.length := by
      rw [← List.length_append, ← List.flatten_append, List.take_append_drop]
    rw [segs, List.flatten_cons, List.length_append, List.length_cons]
    omega
theorem foldE_len (l : List TokL) : (foldE l).length ≤ l.length := by
  have := segs_len l
  unfold foldE
  cases hs : segs l with
  | nil => simp
  | cons x r =>
    rw [hs, List.flatten_cons, List.length_append] at this
    simp only [List.headD_cons]
    omega
/-- The tokens are the old ones, or numbers. -/
theorem seg1_mem (t : TokL) (ops : List (List TokL)) : ∀ x ∈ seg1 t ops, x = t ∨ x ∈ ops.flatten ∨ ∃ v, 0 ≤ v ∧ v ≤ 999 ∧ x = foldT v := by
  intro x hx
  rcases seg1_cases t ops with h | ⟨_, _, _, _, _, _, h0, h1, h⟩
  · rw [h] at hx
    rcases List.mem_cons.1 hx with rfl | hx
    · exact .inl rfl
    · exact .inr (.inl hx)
  · rw [h] at hx
    exact .inr (.inr ⟨_, h0, h1, List.mem_singleton.1 hx⟩)
theorem segs_mem (l : List TokL) : ∀ z ∈ segs l, ∀ x ∈ z, x ∈ l ∨ ∃ v, 0 ≤ v ∧ v ≤ 999 ∧ x = foldT v := by
  induction l with
  | nil => intro z h; cases h
  | cons t r ih =>
    intro z h x hx
    have hr : ∀ z ∈ segs r, ∀ x ∈ z, x ∈ t :: r ∨ ∃ v, 0 ≤ v ∧ v ≤ 999 ∧ x = foldT v := fun z hz x hx => by
      rcases ih z hz x hx with h | h
      · exact .inl (List.mem_cons_of_mem _ h)
      · exact .inr h
    rcases List.mem_cons.1 h with rfl | h
    · rcases seg1_mem _ _ x hx with rfl | h | h
      · exact .inl (List.mem_cons_self ..)
      · obtain ⟨z, hz, hx⟩ := List.mem_flatten.1 h
        exact hr z (List.mem_of_mem_take hz) x hx
      · exact .inr h
    · exact hr z (List.mem_of_mem_drop h) x hx
theorem foldE_mem (l : List TokL) : ∀ x ∈ foldE l, x ∈ l ∨ ∃ v, 0 ≤ v ∧ v ≤ 999 ∧ x = foldT v := by
  intro x hx
  unfold foldE at hx
  cases hs : segs l with
  | nil => rw [hs] at hx; cases hx
  | cons z r =>
    rw [hs] at hx
    exact segs_mem l z (by rw [hs]; exact List.mem_cons_self ..) x hx
/-- An expression folds to an expression. -/
theorem exprB_scan (l : List TokL) : exprB l = true ↔ l.length ≤ 20 ∧ scanN l 1 = some l.length := by
  unfold exprB endZ
  rw [Bool.and_eq_true, decide_eq_true_eq, decide_eq_true_eq, if_neg (by decide)]
  refine and_congr_right fun _ => ?_
  simp only [Int.toNat_zero, List.drop_zero]
  cases scanN l 1 with
  | none => simp [resZ] <;> omega
  | some q => simp [resZ] <;> omega
theorem exprB_fold (l : List TokL) (h : exprB l = true) : exprB (foldE l) = true := by
  rw [exprB_scan] at h ⊢
  refine ⟨by have := foldE_len l; omega, ?_⟩
  have := (segs_expr l h.2).2 [] 0
  rw [List.append_nil] at this
  rw [this]
  simp [scanN]
theorem foldE_nil : foldE [] = [] := rfl
theorem lineB_fold (x : PLine) (h : lineB x = true) : lineB (foldL x) = true := by
  rw [lineB_iff] at h ⊢
  refine ⟨h.1, h.2.1, h.2.2.1, ?_⟩
  have h4 := h.2.2.2
  show efB (exprK x.kind) (foldE x.expr) = true
  unfold efB at h4 ⊢
  split at h4
  · rw [if_pos (by assumption)]; exact exprB_fold _ h4
  · rw [if_neg (by assumption)]
    rw [decide_eq_true_eq] at h4 ⊢
    rw [List.length_eq_zero_iff.1 h4]
    rfl
theorem foldL_again (x : PLine) (h : lineB x = true) : foldL (foldL x) = foldL x := by
  have h4 := ((lineB_iff x).1 h).2.2.2
  unfold efB at h4
  have he : foldE (foldE x.expr) = foldE x.expr := by
    split at h4
    · exact fold_again _ ((exprB_scan _).1 h4).2
    · rw [decide_eq_true_eq] at h4
      rw [List.length_eq_zero_iff.1 h4]
      rfl
  show (⟨x.kind, x.name, x.args, foldE (foldE x.expr)⟩ : PLine) = ⟨x.kind, x.name, x.args, foldE x.expr⟩
  rw [he]
theorem foldP_again (p : List PLine) (h : ∀ x ∈ p, lineB x = true) : foldP (foldP p) = foldP p := by
  unfold foldP
  rw [List.map_map]
  exact List.map_congr_left fun x hx => foldL_again x (h x hx)
/-- A program that makes sense folds to one. -/
theorem followF_fold (p : List PLine) (l : List Nat) : ∀ n, followF (foldP p) n l ↔ followF p n l := by
  induction l with
  | nil => intro n; show n = ((foldP p).length : Int) ↔ n = (p.length : Int); rw [foldP_length]
  | cons k r ih => intro n; rw [followF, followF, beZ_fold, ih]
theorem nestF_fold (l : List PLine) : ∀ o, nestF o (foldP l) ↔ nestF o l := by
  induction l with
  | nil => intro o; exact Iff.rfl
  | cons x r ih =>
    intro o
    have e : foldP (x :: r) = foldL x :: foldP r := rfl
    have hk : (foldL x).kind = x.kind := rfl
    rw [e, nestF, nestF, hk, ih]
theorem elsesF_fold (p : List PLine) (l : List PLine) : ∀ i, elsesF (foldP p) i (foldP l) ↔ elsesF p i l := by
  induction l with
  | nil => intro i; exact Iff.rfl
  | cons x r ih =>
    intro i
    have e : foldP (x :: r) = foldL x :: foldP r := rfl
    have hk : (foldL x).kind = x.kind := rfl
    rw [e, elsesF, elsesF, hk, ih]
    simp only [elseZ_fold]
theorem ok_fold {p : List PLine} (h : OkI p) : OkI (foldP p) := by
  obtain ⟨⟨h1, h2⟩, ⟨h3, h4, h5, h6⟩, h7, h8, h9, h10⟩ := h
  refine ⟨⟨by rw [foldP_length]; exact h1, fun x hx => ?_⟩, ⟨by rw [funs_fold]; exact h3, by rw [findZ_fold]; exact h4, by rw [argsZ_fold]; exact h5, fun k hk hl => ?_⟩, by rw [followF_fold, funs_fold]; exact h7, (nestF_fold p 0).2 h8, (elsesF_fold p p 0).2 h9, fun k hk => ?_⟩
  · obtain ⟨y, hy, rfl⟩ := List.mem_map.1 hx
    exact lineB_fold y (h2 y hy)
  · rw [funs_fold] at hk
    have hl' : k < p.length := by rw [foldP_length] at hl; exact hl
    rw [findZ_fold, foldP_get p k hl hl']
    exact h6 k hk hl'
  · rw [funs_fold] at hk
    obtain ⟨a, b⟩ := h10 k hk
    refine ⟨by rw [locZ_fold]; exact a, fun x hx t ht => ?_⟩
    rw [beZ_fold] at hx
    rw [knownP_fold, locZ_fold]
    have hx' : x ∈ foldP (segZ p k (beZ p k).toNat) := by
      unfold segZ at hx ⊢
      rw [← foldP_take, ← foldP_drop]
      exact hx
    obtain ⟨y, hy, rfl⟩ := List.mem_map.1 hx'
    rcases foldE_mem y.expr t ht with h | ⟨v, _, _, rfl⟩
    · exact b y hy t h
    · exact ⟨fun h => absurd h (by show ¬ (0 : Int) = 1; decide), fun h => absurd h (by show ¬ (0 : Int) = 7; decide)⟩
/-- How many tokens. -/
def cntP (p : List PLine) : Nat := (p.map fun x => x.expr.length).sum
theorem cntP_fold (p : List PLine) : cntP (foldP p) ≤ cntP p := by
  induction p with
  | nil => exact Nat.le_refl _
  | cons x r ih =>
    have h1 : cntP (x :: r) = x.expr.length + cntP r := by simp [cntP]
    have h2 : cntP (foldP (x :: r)) = (foldE x.expr).length + cntP (foldP r) := by simp [cntP, foldP, foldL]
    have := foldE_len x.expr
    omega
end Go.Proofs.YtcnnfhcpkbjolaaDoor

/-! Folding, plain: the folded expression from an index on, operand by operand. Nothing of the program -/
namespace Go.Proofs.YtcnnfhcpkbjolaaDoor
open Go.RowKit Go.Lib

/-- What stands in one row, folded at its beginning. -/
def fw (o : List TokL) : List TokL := match o with
  | [t, a, b] => if 2 ≤ t.kind ∧ t.kind ≤ 6 ∧ a.kind = 0 ∧ b.kind = 0 ∧ 0 ≤ appZ t.kind a.num b.num ∧ appZ t.kind a.num b.num ≤ 999 then [foldT (appZ t.kind a.num b.num)] else [t, a, b]
  | o => o
theorem seg1_fw (t : TokL) (ops : List (List TokL)) : seg1 t ops = fw (t :: ops.flatten) := by
  unfold seg1
  generalize ops.flatten = o
  match o with
  | [] => rfl
  | [_] => rfl
  | [_, _] => rfl
  | _ :: _ :: _ :: _ => rfl
theorem fw_len (o : List TokL) (h : o.length ≠ 3) : fw o = o := by
  match o with
  | [] => rfl
  | [_] => rfl
  | [_, _] => rfl
  | [_, _, _] => exact absurd rfl h
  | _ :: _ :: _ :: _ :: _ => rfl
theorem fw_no (t a b : TokL) (h : ¬ (2 ≤ t.kind ∧ t.kind ≤ 6 ∧ a.kind = 0 ∧ b.kind = 0 ∧ 0 ≤ appZ t.kind a.num b.num ∧ appZ t.kind a.num b.num ≤ 999)) : fw [t, a, b] = [t, a, b] := by
  show (if _ then _ else _) = _
  rw [if_neg h]
theorem fw_yes (t a b : TokL) (h : 2 ≤ t.kind ∧ t.kind ≤ 6 ∧ a.kind = 0 ∧ b.kind = 0 ∧ 0 ≤ appZ t.kind a.num b.num ∧ appZ t.kind a.num b.num ≤ 999) : fw [t, a, b] = [foldT (appZ t.kind a.num b.num)] := by
  show (if _ then _ else _) = _
  rw [if_pos h]
theorem fw_le (o : List TokL) : (fw o).length ≤ o.length := by
  by_cases h : o.length = 3
  · match o, h with
    | [t, a, b], _ =>
      show (if _ then _ else _ : List TokL).length ≤ 3
      split <;> simp
  · rw [fw_len o h]; exact Nat.le_refl _
/-- The token and its first operands, folded. -/
def outF (t : TokL) (S : List (List TokL)) (j : Nat) : List TokL := t :: (S.take j).flatten
theorem outF_zero (t : TokL) (S : List (List TokL)) : outF t S 0 = [t] := by unfold outF; simp
theorem take_flat (S : List (List TokL)) (j : Nat) : (S.take j).flatten.length ≤ S.flatten.length := by
  have : S.flatten = (S.take j).flatten ++ (S.drop j).flatten := by rw [← List.flatten_append, List.take_append_drop]
  rw [this, List.length_append]
  omega
theorem outF_len (t : TokL) (l : List TokL) (j : Nat) : (outF t (segs l) j).length ≤ l.length + 1 := by
  have h1 := take_flat (segs l) j
  have h2 := segs_len l
  unfold outF
  rw [List.length_cons]
  omega
theorem segs_head (l : List TokL) (h : 0 < (segs l).length) : ∃ rest, segs l = foldE l :: rest := by
  unfold foldE
  cases hs : segs l with
  | nil => rw [hs] at h; simp at h
  | cons x r => exact ⟨r, rfl⟩
/-- Operand by operand. -/
theorem ops_at (l : List TokL) : ∀ (r b q : Nat), scanN (l.drop b) r = some q → ∀ j, j < r → ∃ x : Nat, (opsFrom l r (b : Int))[j]? = some (x : Int) ∧ (∃ q', scanN (l.drop x) 1 = some q') ∧ b ≤ x ∧ x < l.length ∧ (segs (l.drop b)).take (j + 1) = (segs (l.drop b)).take j ++ [foldE (l.drop x)] := by
  intro r
  induction r with
  | zero => intro b q _ j hj; omega
  | succ r ih =>
    intro b q h j hj
    obtain ⟨q1, q2, h1, h2, _⟩ := scan_next _ _ _ _ h
    obtain ⟨hl1, hd1⟩ := segs_scan _ 1 _ h1
    obtain ⟨rest, hrest⟩ := segs_head (l.drop b) (by omega)
    have he : endZ l (b : Int) = ((b + q1 : Nat) : Int) := by rw [endZ_nat, h1]; show (b : Int) + (q1 : Int) = _; omega
    have hb : b < l.length := by
      rcases Nat.lt_or_ge b l.length with h | h
      · exact h
      · rw [List.drop_eq_nil_of_le h] at h1; cases h1
    rw [hrest, List.drop_succ_cons, List.drop_zero, List.drop_drop] at hd1
    cases j with
    | zero =>
      refine ⟨b, rfl, ⟨q1, h1⟩, Nat.le_refl _, hb, ?_⟩
      rw [hrest]
      rfl
    | succ j =>
      obtain ⟨x, hx, hq, hbx, hxl, ht⟩ := ih (b + q1) q2 h2 j (by omega)
      refine ⟨x, ?_, hq, by omega, hxl, ?_⟩
      · show (((b : Int) :: opsFrom l r (endZ l (b : Int)))[j + 1]?) = _
        rw [List.getElem?_cons_succ, he]
        exact hx
      · rw [hrest, List.take_succ_cons, List.take_succ_cons, hd1, ht, List.cons_append]
theorem outF_next (t : TokL) (S : List (List TokL)) (j : Nat) (x : List TokL) (h : S.take (j + 1) = S.take j ++ [x]) : outF t S (j + 1) = outF t S j ++ x := by
  unfold outF
  rw [h]
  simp
/-- The whole. -/
theorem fold_at (l : List TokL) (i : Nat) (hi : i < l.length) : foldE (l.drop i) = fw (outF l[i] (segs (l.drop (i + 1))) (arN l[i])) := by
  unfold foldE
  rw [List.drop_eq_getElem_cons hi, segs, List.headD_cons, seg1_fw]
  rfl
end Go.Proofs.YtcnnfhcpkbjolaaDoor
