/- Folding, plain: what a run of a folded program is. Nothing of the program. -/
import Derived.Test.YtcnnfhcpkbjolaaFoldPlain
import Derived.Test.YtcnnfhcpkbjolaaRunInv
namespace Go.Proofs.Ytcnnfhcpkbjolaa
open Go.RowKit Go.Lib

/-- Two segments that hold two tokens together hold one each. -/
theorem two_segs {L : List (List TokL)} {x y : TokL} (hl : L.length = 2) (h : ∀ z ∈ L, 0 < z.length) (hf : L.flatten = [x, y]) : L = [[x], [y]] := by
  match L, hl with
  | [a, b], _ =>
    have ha := h a (by simp)
    have hb := h b (by simp)
    match a, b, ha, hb with
    | a1 :: ar, b1 :: br, _, _ =>
      simp only [List.flatten_cons, List.flatten_nil, List.append_nil, List.cons_append] at hf
      injection hf with h1 h2
      subst h1
      cases ar with
      | nil =>
        simp only [List.nil_append] at h2
        rw [h2]
      | cons c cr =>
        have := congrArg List.length h2
        simp at this
theorem segs_pos (l : List TokL) : ∀ z ∈ segs l, 0 < z.length := by
  induction l with
  | nil => intro z h; cases h
  | cons t r ih =>
    intro z h
    rcases List.mem_cons.1 h with rfl | h
    · exact seg1_pos _ _
    · exact ih z (List.mem_of_mem_drop h)
/-- What folds to a number hands back that number, and does nothing else. -/
theorem pure_num {p : List PLine} {lim : Nat} : ∀ (n : Nat) (c : List Int) (k : Nat) (L : List ByteArray) (vs : List Int) (i : Nat) (s : RunS) (r : RunRes) (s' : RunS) (a : TokL) (rest : List (List TokL)) (q : Nat),
    runF p appZ arN lim n (.eval c k L vs i) s = some (r, s') → scanN ((exprAt p k).drop i) 1 = some q → segs ((exprAt p k).drop i) = [a] :: rest → a.kind = 0 → r = .val a.num (i + q) ∧ s' = s := by
  intro n
  induction n using Nat.strongRecOn with
  | ind n ih =>
    intro c k L vs i s r s' a rest q hrun hq hseg ha
    cases n with
    | zero => exact (no_fuel hrun).elim
    | succ n =>
      obtain ⟨hil, htb, q', hqq, hargs⟩ := scan_one _ _ _ hq
      have htk := tokAt_get p k i hil
      obtain ⟨t, ht⟩ : ∃ t, tokAt p k i = t := ⟨_, rfl⟩
      obtain ⟨r1, s1, hr1, hcase⟩ := eval_inv hrun
      rw [ht] at hr1 hcase htk
      rw [← htk] at htb hargs
      rw [List.drop_eq_getElem_cons hil, ← htk, segs] at hseg
      injection hseg with hs1 hs2
      rcases seg1_cases t ((segs ((exprAt p k).drop (i + 1))).take (arN t)) with hc | ⟨x, y, hxy, hk, hx, hy, h0, h1, hc⟩
      · rw [hc] at hs1
        injection hs1 with hta hfl
        subst hta
        have har : arN t = 0 := by
          unfold arN
          obtain ⟨tk, tn, tm⟩ := t
          dsimp only at ha
          subst ha
          rw [arZ_0 _ _ htb]
          rfl
        rw [har] at hr1 hargs
        have hz := args_done hr1
        injection hz with h1 h2
        subst h1 h2
        have hq0 : q' = 0 := by
          have : scanN ((exprAt p k).drop (i + 1)) 0 = some 0 := by cases (exprAt p k).drop (i + 1) <;> rfl
          rw [this] at hargs
          injection hargs with h
          exact h.symm
        rcases hcase with ⟨_, h, _⟩ | ⟨ws, i1, hv, _, _, h0, _⟩
        · cases h
        · injection hv with hv1 hv2
          subst hv2
          have := h0 ha
          injection this with hr hs
          exact ⟨by rw [hr, hqq, hq0], hs⟩
      · rw [hc] at hs1
        injection hs1 with hta _
        have har : arN t = 2 := by
          unfold arN
          obtain ⟨tk, tn, tm⟩ := t
          dsimp only at hk
          rw [arZ_op _ _ _ htb (by omega) (by omega) (by omega)]
          rfl
        rw [har] at hr1 hargs hxy hcase
        obtain ⟨hsl, hsd⟩ := segs_scan _ _ _ hargs
        have htw := two_segs (by rw [List.length_take]; omega) (fun z hz => segs_pos _ z (List.mem_of_mem_take hz)) hxy
        obtain ⟨q1, q2, hq1, hq2, hq12⟩ := scan_next _ _ _ _ hargs
        obtain ⟨rs, hrs⟩ : ∃ rs, segs ((exprAt p k).drop (i + 1)) = [x] :: [y] :: rs := by
          have := List.take_append_drop 2 (segs ((exprAt p k).drop (i + 1)))
          rw [htw] at this
          exact ⟨_, this.symm⟩
        have hd1 := (segs_scan _ _ _ hq1).2
        rw [hrs] at hd1
        simp only [List.drop_succ_cons, List.drop_zero, List.drop_drop] at hd1
        have hdrop : (exprAt p k).drop (i + 1 + q1) = ((exprAt p k).drop (i + 1)).drop q1 := by rw [List.drop_drop]
        cases n with
        | zero => exact (no_fuel hr1).elim
        | succ n =>
          obtain ⟨re, se, hre, hcs⟩ := args_inv hr1
          have he := ih n (by omega) c k L vs (i + 1) s re se x _ q1 hre hq1 hrs hx
          obtain ⟨rfl, rfl⟩ := he
          rcases hcs with ⟨_, h, _⟩ | ⟨v, i1, hv, r2, s2, h2, hz⟩
          · cases h
          injection hv with hv1 hv2
          subst hv1 hv2
          cases n with
          | zero => exact (no_fuel h2).elim
          | succ n =>
            obtain ⟨rf, sf, hrf, hcf⟩ := args_inv h2
            have hq2' : ∃ q3, scanN ((exprAt p k).drop (i + 1 + q1)) 1 = some q3 ∧ q3 = q2 := by
              exact ⟨q2, hq2, rfl⟩
            obtain ⟨q3, hq3, rfl⟩ := hq2'
            have he2 := ih n (by omega) c k L vs (i + 1 + q1) se rf sf y rs q3 hrf hq3 hd1.symm hy
            obtain ⟨rfl, rfl⟩ := he2
            rcases hcf with ⟨_, h, _⟩ | ⟨v, i1, hv, r3, s3, h3, hz3⟩
            · cases h
            injection hv with hv1 hv2
            subst hv1 hv2
            have hz4 := args_done h3
            injection hz4 with h5 h6
            subst h5 h6
            injection hz3 with e31 e32
            subst e31 e32
            injection hz with hz1 hz2
            subst hz1 hz2
            rcases hcase with ⟨_, h, _⟩ | ⟨ws, i1, hv, _, _, _, _, _, _, hop⟩
            · cases h
            · injection hv with hv1 hv2
              subst hv1 hv2
              have := hop (by omega) (by omega) (by omega)
              injection this with hr hs
              refine ⟨?_, hs⟩
              rw [hr, ← hta]
              show RunRes.val (appZ t.kind _ _) _ = RunRes.val (appZ t.kind x.num y.num) _
              simp only [List.nil_append, List.cons_append, List.append_nil, List.getElem?_cons_zero, List.getElem?_cons_succ, Option.getD_some]
              congr 1
              omega
end Go.Proofs.Ytcnnfhcpkbjolaa
