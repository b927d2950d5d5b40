/- What a line keeps; the jumps told one by one. Nothing of the program's walk. -/
import Derived.Test.YtaplbefdijcceaaGreatDoorI21
import Derived.Test.YtaplbefdijcceaaGreatDoorI04
namespace Go.Proofs.YtaplbefdijcceaaGreatDoor
open Go.RowKit Go.Lib Go.Maps
structure LnK (E : CmpE) (f : Nat) (t R : CiS) : Prop where
  len : t.items.length ≤ R.items.length
  used : R.used ≤ max t.used (64 * (E.inl + 1))
  fi : R.firsts = t.firsts
  ju : ∀ j ∈ R.jumps, j ∈ t.jumps ∨ (j.1 < R.items.length ∧ f < j.2 ∧ (j.2 : Int) ≤ beZ E.p (f : Int) + 1)
  jl : R.jumps.length + t.items.length ≤ t.jumps.length + R.items.length
theorem jump_k {E : CmpE} {f : Nat} {t y : CiS} (h1 : t.items.length ≤ y.items.length) (h2 : y.used ≤ max t.used (64 * (E.inl + 1))) (h3 : y.firsts = t.firsts) (h4 : y.jumps = t.jumps) (code : Int) (l k : Nat) (ch : List Nat) (hf : f < l) (hl : (l : Int) ≤ beZ E.p (f : Int) + 1) : LnK E f t (jumpJ E y code l k ch) := by
  have e : (jumpJ E y code l k ch).items.length = y.items.length + 1 := by unfold jumpJ emitJ; simp
  refine ⟨by omega, h2, h3, fun j hj => ?_, ?_⟩
  · have hj : j ∈ y.jumps ++ [(y.items.length, l)] := hj
    rcases List.mem_append.1 hj with hj | hj
    · exact .inl (by rw [← h4]; exact hj)
    · obtain rfl := List.mem_singleton.1 hj
      exact .inr ⟨by rw [e]; show y.items.length < y.items.length + 1; omega, hf, hl⟩
  · have : (jumpJ E y code l k ch).jumps.length = y.jumps.length + 1 := by show (y.jumps ++ [_]).length = _; simp
    rw [this, e, h4]
    omega
theorem same_k {E : CmpE} {f : Nat} {t R : CiS} (h1 : t.items.length ≤ R.items.length) (h2 : R.used ≤ max t.used (64 * (E.inl + 1))) (h3 : R.firsts = t.firsts) (h4 : R.jumps = t.jumps) : LnK E f t R :=
  ⟨h1, h2, h3, fun j hj => .inl (by rw [← h4]; exact hj), by rw [h4]; omega⟩
theorem leave_k {E : CmpE} {sc : ScL} {t y : CiS} (h1 : t.items.length ≤ y.items.length) (h2 : y.used ≤ max t.used (64 * (E.inl + 1))) (h3 : y.firsts = t.firsts) (h4 : y.jumps = t.jumps) (k : Nat) (h0 : (sc.f : Int) < beZ E.p (sc.f : Int)) : LnK E sc.f t (leaveJ E y sc k) := by
  unfold leaveJ
  split
  · exact jump_k h1 h2 h3 h4 10 _ k _ (by omega) (by omega)
  · split
    · exact same_k (by rw [emitJ_len]; omega) h2 h3 h4
    · exact same_k (by rw [emitJ_len]; omega) h2 h3 h4
theorem line_k {E : CmpE} (ho : OkI E.p) {n : Nat} {scs : List ScL} {sc : ScL} {k : Nat} {t R : CiS} (hs : ScF E scs) (hf : sc.f ∈ funs E.p) (hfk : sc.f < k) (hke : (k : Int) ≤ beZ E.p (sc.f : Int)) (h : LineTo E n scs sc k t R) : LnK E sc.f t R := by
  obtain ⟨hfl, hf0, hfe, hel, _⟩ := fun_parts ho hf
  have h0 : 0 ≤ beZ E.p (sc.f : Int) := by omega
  have hk : k < E.p.length := by omega
  have hlk := lkZ_at E.p k hk
  unfold LineTo at h
  by_cases h4 : lkZ E.p (k : Int) = 4
  · rw [if_pos h4] at h
    have hlt : (k : Int) < beZ E.p (sc.f : Int) := by
      rcases Int.lt_or_le (k : Int) (beZ E.p (sc.f : Int)) with h' | h'
      · exact h'
      · have := beZ_7 E.p (sc.f : Int) h0
        rw [show beZ E.p (sc.f : Int) = (k : Int) from by omega] at this
        omega
    have hk4 : E.p[k].kind = 4 := hlk.symm.trans h4
    obtain ⟨j1, j2, j3⟩ := else_jump ho hk hk4
    have j0 := else_in ho hf hfk hlt hk hk4
    have hap := beZ_apart E.p sc.f (elseOpen E.p k) h0 j0 (by omega) (by omega)
    have hnx : nxZ E.p k = beZ E.p (elseOpen E.p k : Int) + 1 := by unfold nxZ; rw [if_neg (by omega), if_neg (by omega)]
    rw [h]
    exact jump_k (Nat.le_refl _) (Nat.le_max_left ..) rfl rfl 10 _ k _ (by omega) (by omega)
  rw [if_neg h4] at h
  by_cases h7 : lkZ E.p (k : Int) = 7
  · rw [if_pos h7] at h
    by_cases he : (k : Int) = beZ E.p (sc.f : Int)
    · rw [if_pos he] at h
      rw [h]
      have e1 : (numJ E t 0 k sc.chain).items.length = t.items.length + 1 := by unfold numJ incJ emitJ; simp
      split
      · exact leave_k (t := t) (y := numJ E t 0 k sc.chain) (by omega) (Nat.le_max_left ..) rfl rfl k hfe
      · exact same_k (by omega) (Nat.le_max_left ..) rfl rfl
    · rw [if_neg he] at h
      obtain ⟨c1, c2, c3⟩ := close_in ho hf h0 hfk (by omega) h7
      split at h
      · rw [h]
        exact jump_k (Nat.le_refl _) (Nat.le_max_left ..) rfl rfl 10 _ k _ c2 (by omega)
      · rw [h]
        exact same_k (Nat.le_refl _) (Nat.le_max_left ..) rfl rfl
  rw [if_neg h7] at h
  obtain ⟨y, hy, h⟩ := h
  obtain ⟨y1, y2, y3, y4, y5⟩ := ((cmi_bound (E := E) ho.1.1 ho.1.2) n).1 _ _ _ _ _ hs hy
  have y1 : t.items.length ≤ y.2.items.length := y1
  have y2 : y.2.used ≤ max t.used (64 * (E.inl + 1)) := y2
  have y4 : y.2.jumps = t.jumps := y4
  have y5 : y.2.firsts = t.firsts := y5
  have hlt : (k : Int) < beZ E.p (sc.f : Int) := by
    rcases Int.lt_or_le (k : Int) (beZ E.p (sc.f : Int)) with h' | h'
    · exact h'
    · have := beZ_7 E.p (sc.f : Int) h0
      rw [show beZ E.p (sc.f : Int) = (k : Int) from by omega] at this
      omega
  by_cases c1 : lkZ E.p (k : Int) = 1
  · rw [if_pos c1] at h
    rw [h]
    exact same_k (by have : (storeJ E y.2 sc (varIx sc.locs (nameAt E.p k)) k sc.chain).items.length = y.2.items.length + 1 := by { unfold storeJ incJ emitJ; simp }
                     omega) y2 y5 y4
  rw [if_neg c1] at h
  by_cases c2 : lkZ E.p (k : Int) = 2
  · rw [if_pos c2] at h
    rw [h]
    exact same_k (by rw [emitJ_len]; omega) y2 y5 y4
  rw [if_neg c2] at h
  by_cases c6 : lkZ E.p (k : Int) = 6
  · rw [if_pos c6] at h
    rw [h]
    exact leave_k y1 y2 y5 y4 k hfe
  rw [if_neg c6] at h
  rw [h]
  have hkd := kinds_in ho hf hfk hlt hk
  have h35 : E.p[k].kind = 3 ∨ E.p[k].kind = 5 := by rw [hlk] at h4 h7 c1 c2 c6; omega
  have hask := ask_end h0 hfk hlt hk h35
  by_cases hel : lkZ E.p (k : Int) = 3 ∧ 0 ≤ elseZ E.p (k : Int)
  · have hnx : nxZ E.p k = elseZ E.p (k : Int) + 1 := by unfold nxZ; rw [if_pos hel.1, if_pos hel.2]
    have hgt := elseZ_gt E.p (k : Int) hel.2
    have hlt3 := elseZ_lt E.p (k : Int) hel.2
    exact jump_k y1 y2 y5 y4 11 _ k _ (by omega) (by omega)
  · have hnx : nxZ E.p k = beZ E.p (k : Int) + 1 := by
      unfold nxZ
      by_cases h3 : lkZ E.p (k : Int) = 3
      · rw [if_pos h3, if_neg (fun h => hel ⟨h3, h⟩)]
      · rw [if_neg h3, if_pos (by rw [hlk]; rw [hlk] at h3; omega)]
    exact jump_k y1 y2 y5 y4 11 _ k _ (by omega) (by omega)
theorem line_inv {E : CmpE} {n : Nat} {scs : List ScL} {sc : ScL} {k : Nat} {d : Int} {t : CiS} {z : Nat × CiS} (hc : curS scs = sc) (h : cmiF E (n + 1) (.lines scs k d) t = some z) (hke : (k : Int) ≤ beZ E.p (sc.f : Int)) :
    ∃ R, LineTo E n scs sc k { t with depth := d, firsts := t.firsts ++ [t.items.length] } R ∧ cmiF E n (.lines scs (k + 1) d) R = some z := by
  rw [cmiF] at h
  simp only [hc] at h
  rw [if_neg (by omega)] at h
  unfold LineTo
  by_cases h4 : lkZ E.p (k : Int) = 4
  · rw [if_pos h4] at h; simp only [if_pos h4]
    exact ⟨_, rfl, h⟩
  rw [if_neg h4] at h; simp only [if_neg h4]
  by_cases h7 : lkZ E.p (k : Int) = 7
  · rw [if_pos h7] at h; simp only [if_pos h7]
    by_cases he : (k : Int) = beZ E.p (sc.f : Int)
    · rw [if_pos he] at h; simp only [if_pos he]
      exact ⟨_, rfl, h⟩
    · rw [if_neg he] at h; simp only [if_neg he]
      by_cases h5 : lkZ E.p (endOpen E.p k : Int) = 5
      · rw [if_pos h5] at h; simp only [if_pos h5]
        exact ⟨_, rfl, h⟩
      · rw [if_neg h5] at h; simp only [if_neg h5]
        exact ⟨_, rfl, h⟩
  rw [if_neg h7] at h; simp only [if_neg h7]
  obtain ⟨y, h1, h2⟩ := cbind h
  by_cases c1 : lkZ E.p (k : Int) = 1
  · rw [if_pos c1] at h2
    exact ⟨_, ⟨y, h1, by rw [if_pos c1]⟩, h2⟩
  rw [if_neg c1] at h2
  by_cases c2 : lkZ E.p (k : Int) = 2
  · rw [if_pos c2] at h2
    exact ⟨_, ⟨y, h1, by rw [if_neg c1, if_pos c2]⟩, h2⟩
  rw [if_neg c2] at h2
  by_cases c6 : lkZ E.p (k : Int) = 6
  · rw [if_pos c6] at h2
    exact ⟨_, ⟨y, h1, by rw [if_neg c1, if_neg c2, if_pos c6]⟩, h2⟩
  rw [if_neg c6] at h2
  exact ⟨_, ⟨y, h1, by rw [if_neg c1, if_neg c2, if_neg c6]⟩, h2⟩
theorem lines_end {E : CmpE} {n : Nat} {scs : List ScL} {sc : ScL} {k : Nat} {d : Int} {t : CiS} {z : Nat × CiS} (hc : curS scs = sc) (h : cmiF E (n + 1) (.lines scs k d) t = some z) (hke : beZ E.p (sc.f : Int) < (k : Int)) :
    z = (0, { t with firsts := t.firsts ++ [t.items.length], items := applyJ sc.f (t.firsts ++ [t.items.length]) t.jumps t.items }) := by
  rw [cmiF] at h
  simp only [hc] at h
  rw [if_pos hke] at h
  exact (Option.some.inj h).symm
theorem apply_take (f : Nat) (F : List Nat) (J : List (Nat × Nat)) (l : List ItL) (i : Nat) (h : i < J.length) : applyJ f F (J.take (i + 1)) l = setArg (applyJ f F (J.take i) l) J[i].1 (firstJ f F J[i].2) := by
  unfold applyJ
  rw [List.take_succ_eq_append_getElem h, List.foldl_append]
  rfl
section
variable {T : JT} {P : Program} {B cb : Nat} {w : World} {K : KcE} {t : CiS} {jv : Value} {X : List ItW} {sc : ScL} {b : BdW} {line : Nat}
theorem CiAt.arg {g n c : Nat} (h : CiAt T P B cb w K t (.slice (some ⟨g, 0, none⟩) n c) X sc b jv line) (hT : T.ok) (j : Nat) (v : Int) (hj : j < X.length) :
    CiAt T P B cb (w.setCell ⟨g, j * 7 + 1, none⟩ (.int .i64 v)) K { t with items := setArg t.items j v } (.slice (some ⟨g, 0, none⟩) n c) (setX X j v) sc b jv line ∧
      Step cb (ML (.slice (some ⟨g, 0, none⟩) n c) jv b) (ML (.slice (some ⟨g, 0, none⟩) n c) jv b) w (w.setCell ⟨g, j * 7 + 1, none⟩ (.int .i64 v)) := by
  have hn : n = X.length := by
    rcases h.cc.its.2 with ⟨e, _⟩ | ⟨_, _, _, e, _⟩
    · cases e
    · injection e
  subst hn
  have s := h.sep hT
  have other : ∀ {k : Nat}, k ≠ g → (w.setCell ⟨g, j * 7 + 1, none⟩ (.int .i64 v)).heap[k]? = w.heap[k]? := fun hk => set_other hk
  have ng : ∀ {k : Nat}, (Value.slice (some ⟨g, 0, none⟩) X.length c).ownBlock ≠ some k → k ≠ g := fun hk e => hk (by rw [e]; rfl)
  refine ⟨⟨⟨(other (ng s.ic)).trans h.cc.row, ?_, ?_, ?_, h.cc.lo⟩, h.bd.keep (other (ng s.ib)) (other (ng s.im)) (other (ng s.fi)) (fun k hk => other fun e => s.ih g rfl (by rw [hk, e])) (fun k hk => other fun e => s.ij g rfl (by rw [hk, e]))⟩, ?_⟩
  · rw [setX_length, setX_v X j v hj]
    exact (h.cc.its.stored _ _).1
  · rw [setX_it, h.cc.items]
  · rw [setX_ch]
    exact ⟨fun z hz => by
      obtain ⟨x, hx, rfl⟩ := mem_chL.1 hz
      exact owns_blks (h.cc.chn.1 _ hz) (fun k hk => other fun e => s.ix x hx g rfl (by rw [hk, e])), h.cc.chn.2⟩
  · exact ⟨rfl, rfl, rfl, by simp [World.setCell], fun k _ _ hm => set_other (fun e => hm _ (by unfold ML; exact List.mem_cons_self ..) (by rw [e]; rfl)), fun u hu k hk => .inl ⟨u, hu, hk⟩⟩
end
end Go.Proofs.YtaplbefdijcceaaGreatDoor
