/- Folding, plain: a run of the folded program comes to what the program's run comes to. Nothing of the program. -/
import Derived.Test.YtcnnfhcpkbjolaaDoorFoldP
namespace Go.Proofs.YtcnnfhcpkbjolaaDoor
open Go.RowKit Go.Lib

section
variable {p : List PLine} {ap : Int → Int → Int → Int} {ar : TokL → Nat} {lim : Nat} {c : List Int} {f k i i1 m : Nat} {L : List ByteArray} {vs ws : List Int} {s s1 s2 : RunS} {v q : Int} {r : RunRes}
theorem to_args0 : RunTo p ap ar lim (.args c k L vs i 0) s (.vals [] i) s := ⟨1, rfl⟩
theorem to_args_stop (h : RunTo p ap ar lim (.eval c k L vs i) s (.stop q) s1) : RunTo p ap ar lim (.args c k L vs i (m + 1)) s (.stop q) s1 := by
  obtain ⟨n, h⟩ := h
  exact ⟨n + 1, by rw [runF]; simp only [h, onVal, Option.bind_some]⟩
theorem to_args (h : RunTo p ap ar lim (.eval c k L vs i) s (.val v i1) s1) (h2 : RunTo p ap ar lim (.args c k L vs i1 m) s1 r s2) : RunTo p ap ar lim (.args c k L vs i (m + 1)) s (pre [v] r) s2 := by
  obtain ⟨n1, h⟩ := h
  obtain ⟨n2, h2⟩ := h2
  have e1 := runF_le p ap ar lim n1 (n1 + n2) (by omega) _ _ _ h
  have e2 := runF_le p ap ar lim n2 (n1 + n2) (by omega) _ _ _ h2
  exact ⟨n1 + n2 + 1, by rw [runF]; simp only [e1, onVal, Option.bind_some, e2, onVals]; cases r <;> rfl⟩
theorem to_eval_stop (h : RunTo p ap ar lim (.args c k L vs (i + 1) (ar (tokAt p k i))) s (.stop q) s1) : RunTo p ap ar lim (.eval c k L vs i) s (.stop q) s1 := by
  obtain ⟨n, h⟩ := h
  exact ⟨n + 1, by rw [runF]; simp only [h, onVals, Option.bind_some]⟩
theorem to_eval0 (h : RunTo p ap ar lim (.args c k L vs (i + 1) (ar (tokAt p k i))) s (.vals ws i1) s1) (h0 : (tokAt p k i).kind = 0) : RunTo p ap ar lim (.eval c k L vs i) s (.val (tokAt p k i).num i1) s1 := by
  obtain ⟨n, h⟩ := h
  exact ⟨n + 1, by rw [runF]; simp only [h, onVals, Option.bind_some]; rw [if_pos h0]⟩
theorem to_eval1 (h : RunTo p ap ar lim (.args c k L vs (i + 1) (ar (tokAt p k i))) s (.vals ws i1) s1) (h1 : (tokAt p k i).kind = 1) : RunTo p ap ar lim (.eval c k L vs i) s (.val ((vs[varIx L (tokAt p k i).name]?).getD 0) i1) s1 := by
  obtain ⟨n, h⟩ := h
  exact ⟨n + 1, by rw [runF]; simp only [h, onVals, Option.bind_some]; rw [if_neg (by rw [h1]; decide), if_pos h1]⟩
theorem to_eval6 (h : RunTo p ap ar lim (.args c k L vs (i + 1) (ar (tokAt p k i))) s (.vals ws i1) s1) (h7 : (tokAt p k i).kind = 7) (h6 : c.length = 6) : RunTo p ap ar lim (.eval c k L vs i) s (.stop 2) s1 := by
  obtain ⟨n, h⟩ := h
  exact ⟨n + 1, by rw [runF]; simp only [h, onVals, Option.bind_some]; rw [if_neg (by rw [h7]; decide), if_neg (by rw [h7]; decide), if_pos h7, if_pos h6]⟩
theorem to_eval7 (h : RunTo p ap ar lim (.args c k L vs (i + 1) (ar (tokAt p k i))) s (.vals ws i1) s1) (h7 : (tokAt p k i).kind = 7) (h6 : c.length ≠ 6)
    (h2 : RunTo p ap ar lim (.lines (c ++ [(k : Int)]) (findZ p (tokAt p k i).name).toNat (locZ p (findZ p (tokAt p k i).name)) (callVars p (findZ p (tokAt p k i).name).toNat ws) ((findZ p (tokAt p k i).name).toNat + 1)) s1 r s2) :
    RunTo p ap ar lim (.eval c k L vs i) s (match r with | .ret v => .val v i1 | r => r) s2 := by
  obtain ⟨n1, h⟩ := h
  obtain ⟨n2, h2⟩ := h2
  have e1 := runF_le p ap ar lim n1 (n1 + n2) (by omega) _ _ _ h
  have e2 := runF_le p ap ar lim n2 (n1 + n2) (by omega) _ _ _ h2
  exact ⟨n1 + n2 + 1, by
    rw [runF]
    simp only [e1, onVals, Option.bind_some]
    rw [if_neg (by rw [h7]; decide), if_neg (by rw [h7]; decide), if_pos h7, if_neg h6]
    simp only [e2, onRet, Option.bind_some]
    cases r <;> rfl⟩
theorem to_evalo (h : RunTo p ap ar lim (.args c k L vs (i + 1) (ar (tokAt p k i))) s (.vals ws i1) s1) (h0 : (tokAt p k i).kind ≠ 0) (h1 : (tokAt p k i).kind ≠ 1) (h7 : (tokAt p k i).kind ≠ 7) :
    RunTo p ap ar lim (.eval c k L vs i) s (.val (ap (tokAt p k i).kind ((ws[0]?).getD 0) ((ws[1]?).getD 0)) i1) s1 := by
  obtain ⟨n, h⟩ := h
  exact ⟨n + 1, by rw [runF]; simp only [h, onVals, Option.bind_some]; rw [if_neg h0, if_neg h1, if_neg h7]⟩
/-- A line that is visited goes on so. -/
theorem to_line (he : ¬ beZ p (f : Int) ≤ (k : Int)) (h4 : lkZ p (k : Int) ≠ 4) (h7 : lkZ p (k : Int) ≠ 7) (hv : s.vis.length ≠ lim) (h : RunTo p ap ar lim (.eval c k L vs 0) ⟨s.out, s.vis ++ [c ++ [(k : Int)]]⟩ (.val v i1) s1) {F : Nat → RunO} {z : RunRes × RunS} (hm : ∀ n m, n ≤ m → F n = some z → F m = some z) (hF : ∃ n, F n = some z)
    (hn : ∀ n, (if lkZ p (k : Int) = 1 then runF p ap ar lim n (.lines c f L (vs.set (varIx L (nameAt p k)) v) (k + 1)) s1
          else if lkZ p (k : Int) = 2 then runF p ap ar lim n (.lines c f L vs (k + 1)) ⟨s1.out ++ [v], s1.vis⟩
          else if lkZ p (k : Int) = 6 then some (.ret v, s1)
          else if v ≠ 0 then runF p ap ar lim n (.lines c f L vs (k + 1)) s1
          else if lkZ p (k : Int) = 3 ∧ 0 ≤ elseZ p (k : Int) then runF p ap ar lim n (.lines c f L vs ((elseZ p (k : Int)).toNat + 1)) s1
          else runF p ap ar lim n (.lines c f L vs ((beZ p (k : Int)).toNat + 1)) s1) = F n) : RunTo p ap ar lim (.lines c f L vs k) s z.1 z.2 := by
  obtain ⟨n1, h⟩ := h
  obtain ⟨n2, h2⟩ := hF
  have e1 := runF_le p ap ar lim n1 (n1 + n2) (by omega) _ _ _ h
  refine ⟨n1 + n2 + 1, ?_⟩
  rw [runF, if_neg he, if_neg h4, if_neg h7, if_neg hv]
  simp only [e1, onVal, Option.bind_some]
  rw [hn]
  exact hm _ _ (by omega) h2
end
/-- Line k's calls are of functions that there are. -/
def LnC (p : List PLine) (k : Nat) : Prop := ∃ hl : k < p.length, ∀ t ∈ p[k].expr, t.kind = 7 → 0 ≤ findZ p t.name
/-- What a job of the folded program comes to. -/
def FoldsTo (p : List PLine) (lim : Nat) : Job → RunS → RunRes → RunS → Prop
  | .eval c k L vs i, s, r, s' => ∀ (q i' : Nat) (x : List TokL) (rest : List (List TokL)) (tl : List TokL), LnC p k → scanN ((exprAt p k).drop i) 1 = some q → segs ((exprAt p k).drop i) = x :: rest → (exprAt (foldP p) k).drop i' = x ++ tl →
      (∃ v, r = .val v (i + q) ∧ RunTo (foldP p) appZ arN lim (.eval c k L vs i') s (.val v (i' + x.length)) s') ∨ (∃ t, r = .stop t ∧ RunTo (foldP p) appZ arN lim (.eval c k L vs i') s (.stop t) s')
  | .args c k L vs i m, s, r, s' => ∀ (q i' : Nat) (tl : List TokL), LnC p k → scanN ((exprAt p k).drop i) m = some q → (exprAt (foldP p) k).drop i' = ((segs ((exprAt p k).drop i)).take m).flatten ++ tl →
      (∃ ws, r = .vals ws (i + q) ∧ RunTo (foldP p) appZ arN lim (.args c k L vs i' m) s (.vals ws (i' + ((segs ((exprAt p k).drop i)).take m).flatten.length)) s') ∨ (∃ t, r = .stop t ∧ RunTo (foldP p) appZ arN lim (.args c k L vs i' m) s (.stop t) s')
  | .lines c f L vs k, s, r, s' => f ∈ funs p → f < k → RunTo (foldP p) appZ arN lim (.lines c f L vs k) s r s'

theorem drop_more (l x tl : List TokL) (i : Nat) (h : l.drop i = x ++ tl) : l.drop (i + x.length) = tl := by
  rw [← List.drop_drop, h, List.drop_left' rfl]
theorem tokAt_head {p : List PLine} {k i : Nat} {t : TokL} {tl : List TokL} (h : (exprAt p k).drop i = t :: tl) : tokAt p k i = t := by
  rw [tokAt_getD, show (exprAt p k)[i]? = some t from by
    have : ((exprAt p k).drop i)[0]? = some t := by rw [h]; rfl
    rwa [List.getElem?_drop, Nat.add_zero] at this]
  rfl
set_option maxHeartbeats 2000000 in
theorem fold_run {p : List PLine} (ho : OkI p) {lim : Nat} : ∀ (n : Nat) (j : Job) (s : RunS) (r : RunRes) (s' : RunS), runF p appZ arN lim n j s = some (r, s') → FoldsTo p lim j s r s' := by
  intro n
  induction n with
  | zero => intro j s r s' h; exact (no_fuel h).elim
  | succ n ih =>
    intro j s r s' h
    cases j with
    | args c k L vs i m =>
      intro q i' tl hL hq hd
      cases m with
      | zero =>
        have hz := args_done h
        injection hz with h1 h2
        subst h1 h2
        have hq0 : q = 0 := by
          have : scanN ((exprAt p k).drop i) 0 = some 0 := by cases (exprAt p k).drop i <;> rfl
          rw [this] at hq
          injection hq with h
          exact h.symm
        subst hq0
        exact .inl ⟨[], rfl, to_args0⟩
      | succ m =>
        obtain ⟨q1, q2, h1, h2, rfl⟩ := scan_next _ _ _ _ hq
        obtain ⟨hl1, hd1⟩ := segs_scan _ 1 _ h1
        obtain ⟨x, rest, hx⟩ : ∃ x rest, segs ((exprAt p k).drop i) = x :: rest := by
          cases hs : segs ((exprAt p k).drop i) with
          | nil => rw [hs] at hl1; exact absurd hl1 (by simp)
          | cons x rest => exact ⟨x, rest, rfl⟩
        rw [hx] at hd hd1 ⊢
        rw [List.drop_succ_cons, List.drop_zero, List.drop_drop] at hd1
        rw [List.take_succ_cons, List.flatten_cons, List.append_assoc] at hd
        rw [List.take_succ_cons, List.flatten_cons, List.length_append]
        obtain ⟨r1, s1, hr1, hc⟩ := args_inv h
        have hd2 := drop_more _ _ _ _ hd
        rcases ih _ _ _ _ hr1 q1 i' x rest _ hL h1 hx hd with ⟨v, rfl, hv⟩ | ⟨t, rfl, ht⟩
        · rcases hc with ⟨_, hc, _⟩ | ⟨v', i1, hc, r2, s2, hr2, hz⟩
          · cases hc
          injection hc with e1 e2
          subst e1 e2
          injection hz with e1 e2
          subst e1 e2
          rw [hd1] at hd2 ⊢
          rcases ih _ _ _ _ hr2 q2 (i' + x.length) tl hL h2 hd2 with ⟨ws, rfl, hw⟩ | ⟨t, rfl, ht⟩
          · refine .inl ⟨v :: ws, by show RunRes.vals _ _ = _; rw [Nat.add_assoc]; rfl, ?_⟩
            have := to_args hv hw
            rw [Nat.add_assoc] at this
            exact this
          · exact .inr ⟨t, rfl, to_args hv ht⟩
        · rcases hc with ⟨q', hc, hz⟩ | ⟨v', i1, hc, _⟩
          · injection hc with e
            subst e
            injection hz with e1 e2
            subst e1 e2
            exact .inr ⟨t, rfl, to_args_stop ht⟩
          · cases hc
    | eval c k L vs i =>
      intro q i' x rest tl hL hq hx hd
      obtain ⟨hil, htb, q', hqq, hargs⟩ := scan_one _ _ _ hq
      have htk := tokAt_get p k i hil
      obtain ⟨t, ht⟩ : ∃ t, tokAt p k i = t := ⟨_, rfl⟩
      have hx0 := hx
      rw [List.drop_eq_getElem_cons hil, ← htk, ht, segs] at hx0
      injection hx0 with hs1 hs2
      rcases seg1_cases t ((segs ((exprAt p k).drop (i + 1))).take (arN t)) with hc | ⟨a, b, _, _, _, _, h0, h1, hc⟩
      · rw [hc] at hs1
        subst hs1
        obtain ⟨r1, s1, hr1, hcase⟩ := eval_inv h
        rw [← htk, ht] at hargs
        rw [ht] at hr1 hcase
        have ht' : tokAt (foldP p) k i' = t := tokAt_head (by rw [hd]; rfl)
        have hd1 := drop_more _ [t] _ i' (by rw [hd]; rfl)
        obtain ⟨hl, hcl⟩ := hL
        have hr' : ∀ r s', RunTo (foldP p) appZ arN lim (.args c k L vs (i' + 1) (arN t)) s r s' → RunTo (foldP p) appZ arN lim (.args c k L vs (i' + 1) (arN (tokAt (foldP p) k i'))) s r s' := fun r s' h => by rw [ht']; exact h
        rcases ih _ _ _ _ hr1 q' (i' + 1) tl ⟨hl, hcl⟩ hargs hd1 with ⟨ws, rfl, hw⟩ | ⟨st, rfl, hw⟩
        · rcases hcase with ⟨_, hcc, _⟩ | ⟨ws', i1, hcc, _, _, c0, c1, c6, c7, co⟩
          · cases hcc
          injection hcc with e1 e2
          subst e1 e2
          have hw' := hr' _ _ hw
          have e3 : i + 1 + q' = i + q := by omega
          have e4 : i' + 1 + ((segs ((exprAt p k).drop (i + 1))).take (arN t)).flatten.length = i' + (t :: ((segs ((exprAt p k).drop (i + 1))).take (arN t)).flatten).length := by rw [List.length_cons]; omega
          rw [e3] at c0 c1 c7 co
          rw [e4] at hw'
          by_cases k0 : t.kind = 0
          · have := c0 k0
            injection this with e5 e6
            subst e5 e6
            have := to_eval0 hw' (by rw [ht']; exact k0)
            rw [ht'] at this
            exact .inl ⟨_, rfl, this⟩
          by_cases k1 : t.kind = 1
          · have := c1 k1
            injection this with e5 e6
            subst e5 e6
            have := to_eval1 hw' (by rw [ht']; exact k1)
            rw [ht'] at this
            exact .inl ⟨_, rfl, this⟩
          by_cases k7 : t.kind = 7
          · by_cases h6 : c.length = 6
            · have := c6 k7 h6
              injection this with e5 e6
              subst e5 e6
              exact .inr ⟨2, rfl, to_eval6 hw' (by rw [ht']; exact k7) h6⟩
            · obtain ⟨r2, s2, hr2, hz⟩ := c7 k7 h6
              have hmem : t ∈ p[k].expr := by rw [← ht]; exact tokAt_mem p k i hl (by rw [ht]; exact k7)
              have hf0 := hcl t hmem k7
              obtain ⟨f', hf'⟩ := Int.eq_ofNat_of_zero_le hf0
              have hfn := findZ_fun p _ _ hf'
              have hgo := ih _ _ _ _ hr2 (by rw [hf', Int.toNat_natCast]; exact hfn) (Nat.lt_succ_self _)
              have := to_eval7 hw' (by rw [ht']; exact k7) h6 (r := r2) (s2 := s2) (by rw [ht', findZ_fold, locZ_fold, callVars_fold]; exact hgo)
              rcases hz with ⟨st, rfl, hz⟩ | ⟨v, rfl, hz⟩
              · injection hz with e5 e6
                subst e5 e6
                exact .inr ⟨st, rfl, this⟩
              · injection hz with e5 e6
                subst e5 e6
                exact .inl ⟨v, rfl, this⟩
          · have := co k0 k1 k7
            injection this with e5 e6
            subst e5 e6
            have := to_evalo hw' (by rw [ht']; exact k0) (by rw [ht']; exact k1) (by rw [ht']; exact k7)
            rw [ht'] at this
            exact .inl ⟨_, rfl, this⟩
        · rcases hcase with ⟨q2, hcc, hz⟩ | ⟨ws', i1, hcc, _⟩
          · injection hcc with e
            subst e
            injection hz with e1 e2
            subst e1 e2
            exact .inr ⟨st, rfl, to_eval_stop (hr' _ _ hw)⟩
          · cases hcc
      · rw [hc] at hs1
        subst hs1
        obtain ⟨rfl, rfl⟩ := pure_num (n + 1) c k L vs i s r s' _ rest q h hq hx rfl
        refine .inl ⟨_, rfl, ?_⟩
        have ht' : tokAt (foldP p) k i' = foldT (appZ t.kind a.num b.num) := tokAt_head (by rw [hd]; rfl)
        have har : arN (tokAt (foldP p) k i') = 0 := by rw [ht', arN_num _ h0 h1]
        have := to_eval0 (p := foldP p) (ap := appZ) (ar := arN) (lim := lim) (c := c) (k := k) (L := L) (vs := vs) (i := i') (s := s') (ws := []) (i1 := i' + 1) (s1 := s') (by rw [har]; exact to_args0) (by rw [ht']; rfl)
        rw [ht'] at this
        exact this
    | lines c f L vs k =>
      intro hf hfk
      by_cases he : beZ p (f : Int) ≤ (k : Int)
      · have := lines_over h he
        injection this with e1 e2
        subst e1 e2
        exact ⟨1, by rw [runF, if_pos (by rw [beZ_fold]; exact he)]⟩
      have hke : (k : Int) < beZ p (f : Int) := by omega
      have hb0 : 0 ≤ beZ p (f : Int) := by omega
      have hl : k < p.length := by have := (beZ_lt p (f : Int)).2; omega
      have he' : ¬ beZ (foldP p) (f : Int) ≤ (k : Int) := by rw [beZ_fold]; exact he
      by_cases h4 : lkZ p (k : Int) = 4
      · have hj := else_jump ho hl (by rwa [lkZ_at p k hl] at h4)
        obtain ⟨N, hN⟩ := ih _ _ _ _ (lines_else h he h4) hf (by omega)
        exact ⟨N + 1, by rw [runF, if_neg he', if_pos (by rw [lkZ_fold]; exact h4), elseOpen_fold, beZ_fold]; exact hN⟩
      by_cases h7 : lkZ p (k : Int) = 7
      · by_cases h5 : lkZ p (endOpen p k : Int) = 5
        · have hj := while_jump hb0 hfk hke h7 h5
          obtain ⟨N, hN⟩ := ih _ _ _ _ (lines_back h he h7 h5) hf hj.1
          exact ⟨N + 1, by rw [runF, if_neg he', if_neg (by rw [lkZ_fold]; exact h4), if_pos (by rw [lkZ_fold]; exact h7), if_pos (by rw [endOpen_fold, lkZ_fold]; exact h5), endOpen_fold]; exact hN⟩
        · obtain ⟨N, hN⟩ := ih _ _ _ _ (lines_on h he h7 h5) hf (by omega)
          exact ⟨N + 1, by rw [runF, if_neg he', if_neg (by rw [lkZ_fold]; exact h4), if_pos (by rw [lkZ_fold]; exact h7), if_neg (by rw [endOpen_fold, lkZ_fold]; exact h5)]; exact hN⟩
      by_cases hv : s.vis.length = lim
      · have := lines_full h he h4 h7 hv
        injection this with e1 e2
        subst e1 e2
        exact ⟨1, by rw [runF, if_neg he', if_neg (by rw [lkZ_fold]; exact h4), if_neg (by rw [lkZ_fold]; exact h7), if_pos hv]⟩
      have h4' : lkZ (foldP p) (k : Int) ≠ 4 := by rw [lkZ_fold]; exact h4
      have h7' : lkZ (foldP p) (k : Int) ≠ 7 := by rw [lkZ_fold]; exact h7
      have hkd := kinds_in ho hf hfk hke hl
      have hlb := ho.1.2 _ (List.getElem_mem hl)
      have hex : exprB (exprAt p k) = true := by
        have h4 := ((lineB_iff _).1 hlb).2.2.2
        rw [lkZ_at p k hl] at *
        have hk : exprK p[k].kind = true := by
          unfold exprK
          simp only [Bool.and_eq_true, Bool.not_eq_true', decide_eq_false_iff_not]
          exact ⟨by omega, by omega, by omega⟩
        rw [hk] at h4
        unfold efB at h4
        rw [if_pos rfl] at h4
        rw [exprAt_get p k hl]
        exact h4
      have hsc := ((exprB_scan _).1 hex).2
      have hL : LnC p k := ⟨hl, fun t ht h7 => ((line_in ho hf hfk hke hl t ht).2 h7).1⟩
      obtain ⟨r1, s1, hr1, hcase⟩ := lines_visit h he h4 h7 hv
      have hsg := (segs_expr _ hsc).1
      rcases ih _ _ _ _ hr1 _ 0 (foldE (exprAt p k)) [] [] hL (by rw [List.drop_zero]; exact hsc) (by rw [List.drop_zero]; exact hsg) (by rw [exprAt_fold, List.drop_zero, List.append_nil]) with ⟨v, rfl, hv1⟩ | ⟨t, rfl, ht⟩
      · rcases hcase with ⟨_, hcc, _⟩ | ⟨v', i1, hcc, ha⟩
        · cases hcc
        injection hcc with e1 e2
        subst e1 e2
        obtain ⟨a1, a2, a6, a35, a3, a3n, a5⟩ := ha
        have mono : ∀ (j : Job) (s : RunS) (z : RunRes × RunS) n m, n ≤ m → runF (foldP p) appZ arN lim n j s = some z → runF (foldP p) appZ arN lim m j s = some z := fun j s z n m hn h => runF_le (foldP p) appZ arN lim n m hn j s z h
        have hkk : lkZ p (k : Int) = p[k].kind := lkZ_at p k hl
        have go : ∀ (vs' : List Int) (k' : Nat) (s2 : RunS), runF p appZ arN lim n (.lines c f L vs' k') s2 = some (r, s') → f < k' → ∃ N, runF (foldP p) appZ arN lim N (.lines c f L vs' k') s2 = some (r, s') := fun vs' k' s2 h hk' => ih _ _ _ _ h hf hk'
        by_cases k1 : lkZ p (k : Int) = 1
        · exact to_line (z := (r, s')) he' h4' h7' hv hv1 (mono _ _ _) (go _ _ _ (a1 k1) (by omega)) (fun n => by rw [if_pos (by rw [lkZ_fold]; exact k1), nameAt_fold])
        by_cases k2 : lkZ p (k : Int) = 2
        · exact to_line (z := (r, s')) he' h4' h7' hv hv1 (mono _ _ _) (go _ _ _ (a2 k2) (by omega)) (fun n => by rw [if_neg (by rw [lkZ_fold]; exact k1), if_pos (by rw [lkZ_fold]; exact k2)])
        by_cases k6 : lkZ p (k : Int) = 6
        · have := a6 k6
          injection this with e1 e2
          subst e1 e2
          exact to_line (z := (.ret v, s')) (F := fun _ => some (.ret v, s')) he' h4' h7' hv hv1 (fun _ _ _ h => h) ⟨0, rfl⟩ (fun n => by rw [if_neg (by rw [lkZ_fold]; exact k1), if_neg (by rw [lkZ_fold]; exact k2), if_pos (by rw [lkZ_fold]; exact k6)])
        have n6 : ∀ n, (if lkZ (foldP p) (k : Int) = 1 then runF (foldP p) appZ arN lim n (.lines c f L (vs.set (varIx L (nameAt (foldP p) k)) v) (k + 1)) s1
          else if lkZ (foldP p) (k : Int) = 2 then runF (foldP p) appZ arN lim n (.lines c f L vs (k + 1)) ⟨s1.out ++ [v], s1.vis⟩
          else if lkZ (foldP p) (k : Int) = 6 then some (.ret v, s1)
          else if v ≠ 0 then runF (foldP p) appZ arN lim n (.lines c f L vs (k + 1)) s1
          else if lkZ (foldP p) (k : Int) = 3 ∧ 0 ≤ elseZ (foldP p) (k : Int) then runF (foldP p) appZ arN lim n (.lines c f L vs ((elseZ (foldP p) (k : Int)).toNat + 1)) s1
          else runF (foldP p) appZ arN lim n (.lines c f L vs ((beZ (foldP p) (k : Int)).toNat + 1)) s1) = (if v ≠ 0 then runF (foldP p) appZ arN lim n (.lines c f L vs (k + 1)) s1
          else if lkZ p (k : Int) = 3 ∧ 0 ≤ elseZ p (k : Int) then runF (foldP p) appZ arN lim n (.lines c f L vs ((elseZ p (k : Int)).toNat + 1)) s1
          else runF (foldP p) appZ arN lim n (.lines c f L vs ((beZ p (k : Int)).toNat + 1)) s1) := fun n => by
            rw [lkZ_fold, if_neg k1, if_neg k2, if_neg k6, elseZ_fold, beZ_fold]
        have k35 : lkZ p (k : Int) = 3 ∨ lkZ p (k : Int) = 5 := by omega
        by_cases v0 : v = 0
        · by_cases h3 : lkZ p (k : Int) = 3 ∧ 0 ≤ elseZ p (k : Int)
          · have hgt := elseZ_gt p (k : Int) h3.2
            exact to_line (z := (r, s')) he' h4' h7' hv hv1 (mono _ _ _) (go _ _ _ (a3 h3.1 v0 h3.2) (by omega)) (fun n => by rw [n6, if_neg (by simpa using v0), if_pos h3])
          · have hend := ask_end hb0 hfk hke hl (by omega)
            have hrun : runF p appZ arN lim n (.lines c f L vs ((beZ p (k : Int)).toNat + 1)) s1 = some (r, s') := by
              rcases k35 with k3 | k5
              · exact a3n k3 v0 (fun h => h3 ⟨k3, h⟩)
              · exact a5 k5 v0
            exact to_line (z := (r, s')) he' h4' h7' hv hv1 (mono _ _ _) (go _ _ _ hrun (by omega)) (fun n => by rw [n6, if_neg (by simpa using v0), if_neg h3])
        · exact to_line (z := (r, s')) he' h4' h7' hv hv1 (mono _ _ _) (go _ _ _ (a35 k35 v0) (by omega)) (fun n => by rw [n6, if_pos v0])
      · rcases hcase with ⟨q2, hcc, hz⟩ | ⟨v', i1, hcc, _⟩
        · injection hcc with e
          subst e
          injection hz with e1 e2
          subst e1 e2
          obtain ⟨N, hN⟩ := ht
          exact ⟨N + 1, by rw [runF, if_neg he', if_neg h4', if_neg h7', if_neg hv]; simp only [hN, onVal, Option.bind_some]⟩
        · cases hcc
end Go.Proofs.YtcnnfhcpkbjolaaDoor
