/- What the lines of a drawn program are. Nothing of the program. -/
import Derived.Test.YtcnnfhcpkbjolaaDoorPlainB
namespace Go.Proofs.YtcnnfhcpkbjolaaDoor
open Go.RowKit Go.Lib

/-- A drawn line is valid. -/
theorem LnOk.line {x : LnL} (h : LnOk x) : lineB x.p = true := by
  rw [lineB_iff]
  obtain ⟨k, nm, gs, ex, va, ve⟩ := x
  unfold LnOk at h
  dsimp only [LnL.p] at h ⊢
  rcases h with ⟨rfl, h1, h2, h3, h4, rfl⟩ | ⟨rfl, h1, rfl, h2⟩ | ⟨hk, rfl, rfl, h2⟩ | ⟨hk, rfl, rfl, rfl⟩
  · refine ⟨by omega, by simp [nfB, namedB, h1], ?_, by simp [efB, exprK]⟩
    unfold afB
    rw [if_pos (by simp), decide_eq_true h4, (diffB_iff gs).2 ⟨h2, h3⟩]
    rfl
  · exact ⟨by omega, by simp [nfB, namedB, h1], by simp [afB], by simp [efB, exprK, h2]⟩
  · rcases hk with rfl | rfl | rfl | rfl
    all_goals exact ⟨by omega, by simp [nfB, namedB]; rfl, by simp [afB], by simp [efB, exprK, h2]⟩
  · rcases hk with rfl | rfl
    all_goals exact ⟨by omega, by simp [nfB, namedB]; rfl, by simp [afB], by simp [efB, exprK]⟩
theorem line_small (p : PLine) (h : lineB p = true) : SmallL p := by
  have h1 := line_name8 p h
  have h2 := line_args p h
  have h3 := line_arg8 p h
  have h4 := (ef_small _ _ ((lineB_iff p).1 h).2.2.2).1
  refine ⟨by omega, by omega, fun s hs => by have := h3 s hs; omega, by omega, fun t ht => ?_⟩
  rcases line_expr p h with he | he
  · rw [he] at ht; cases ht
  · have := tok_name _ (expr_toks _ he t ht); omega

theorem all_lines {X : List LnL} (h : ∀ x ∈ X, LnOk x) : (plL X).all lineB = true := by
  rw [List.all_eq_true]
  intro p hp
  obtain ⟨x, hx, rfl⟩ := List.mem_map.1 hp
  exact (h x hx).line
theorem own_formT {B T n s : Nat} {w : World} {v : Value} {xs : List Value} (h : w.ownsRow B T s v n xs) (hn : 0 < n) : ∃ g cp, v = .slice (some ⟨g, 0, none⟩) n cp := by
  rcases h.2 with ⟨_, h0⟩ | ⟨g, cap, cur, rfl, _⟩
  · omega
  · exact ⟨g, cap, rfl⟩
end Go.Proofs.YtcnnfhcpkbjolaaDoor
