/- What performing one of the program's instructions comes to. -/
import Derived.Test.YtakgjlpgcepnkaaGreatI19
namespace Go.Proofs.YtakgjlpgcepnkaaGreat
open Go.RowKit Go.Lib

section
variable {B cb mb : Nat} {w : World} {sv ov : Value} {s : McS}
/-- What performing an instruction leaves; only where something is put out the output's row may be another one. -/
def MiQ (B cb mb : Nat) (ev sv ov : Value) (s s' : McS) (w : World) (e : Ending) (w' : World) : Prop := e = .returned (.tuple #[]) ∧ ∃ ov', Hid (MiAt B cb mb w' ev sv ov' s') ∧ Hid (Step mb (MM cb sv ov) (MM cb sv ov') w w') ∧ Hid (w'.ownsRow B 3 1 ov s.1.out.length (intV s.1.out)) ∧ Hid ((ov' = ov ∧ s'.1.out = s.1.out) ∨ s'.1.pc = s.1.pc)
theorem MiQ.of {ev : Value} {s' : McS} {w' : World} {e : Ending} (h : MiR B cb mb ev sv ov (.tuple #[]) s' w e w') (ho : s'.1.out = s.1.out) : MiQ B cb mb ev sv ov s s' w e w' := by
  obtain ⟨h1, h2, h3⟩ := h
  refine ⟨h1, ov, h2, h3, Lib.hid ?_, Lib.hid (.inl ⟨rfl, ho⟩)⟩
  have := h2.out.mc.out
  rw [ho] at this
  exact this
theorem store_out (s : McS) (a v : Int) : (storeIM s a v).1.out = s.1.out := by unfold storeIM; split <;> rfl
theorem push_out (s : McS) (v : Int) : (pushI s v).1.out = s.1.out := by unfold pushI; rw [store_out]
theorem pop_out (s : McS) : (popI s).2.1.out = s.1.out := by rw [pop_m]
theorem drop_out (n : Nat) : ∀ s : McS, (dropI n s).1.out = s.1.out := by
  induction n with
  | zero => intro s; rfl
  | succ n ih => intro s; exact (ih _).trans (pop_out s)
theorem zeros_out (n : Nat) : ∀ s : McS, (zerosI' n s).1.out = s.1.out := by
  induction n with
  | zero => intro s; rfl
  | succ n ih => intro s; exact (ih _).trans (push_out s 0)
set_option maxHeartbeats 4000000 in
/-- An instruction is performed. -/
theorem i_perform (ea : Option Addr) (ec : Nat) (E : List Int) (h : MiAt B cb mb w (.slice ea E.length ec) sv ov s) (hE : ∀ W, Below B w W → ReadI W ea E) (hB1 : B ≤ cb) (hB2 : B ≤ mb) (hO : s.1.out.length ≤ 4000000) (x : OpL) (hx : ArgOk x) :
    Calls Tryz.prog (insT x.code.toNat) #[.pointer (some ⟨cb, 0, none⟩), .agg #[.int .i64 x.code, .int .i64 x.arg]] w (MiQ B cb mb (.slice ea E.length ec) sv ov s (perfI E x s) w) := by
  obtain ⟨c, a⟩ := x
  obtain ⟨⟨h0, h17⟩, ha, _, hc, hA⟩ := hx
  dsimp only at h0 h17 ha hc hA ⊢
  have hc' : c = 0 ∨ c = 1 ∨ c = 2 ∨ c = 3 ∨ c = 4 ∨ c = 5 ∨ c = 6 ∨ c = 7 ∨ c = 8 ∨ c = 9 ∨ c = 10 ∨ c = 11 ∨ c = 12 ∨ c = 13 ∨ c = 14 ∨ c = 15 ∨ c = 16 ∨ c = 17 := by omega
  rcases hc' with rfl | rfl | rfl | rfl | rfl | rfl | rfl | rfl | rfl | rfl | rfl | rfl | rfl | rfl | rfl | rfl | rfl | rfl
  · unfold perfI
    dsimp only
    rw [if_pos (by decide)]
    exact (i_constant h 0 a).mono fun e w' hr => MiQ.of hr (push_out _ _)
  · unfold perfI
    dsimp only
    rw [if_neg (by decide), if_pos (by decide)]
    exact (i_loadFrame h 1 a).mono fun e w' hr => MiQ.of hr (by rw [push_out, load_m])
  · unfold perfI
    dsimp only
    rw [if_neg (by decide), if_neg (by decide), if_pos (by decide)]
    exact (i_storeFrame h 2 a).mono fun e w' hr => MiQ.of hr (by rw [store_out, pop_out])
  · unfold perfI
    dsimp only
    rw [if_neg (by decide), if_neg (by decide), if_neg (by decide), if_pos (by decide)]
    exact (i_loadStack h 3 a).mono fun e w' hr => MiQ.of hr (by rw [push_out, load_m])
  · unfold perfI
    dsimp only
    rw [if_neg (by decide), if_neg (by decide), if_neg (by decide), if_neg (by decide), if_pos (by decide)]
    exact (i_storeStack h 4 a).mono fun e w' hr => MiQ.of hr (by rw [store_out, pop_out])
  · unfold perfI
    dsimp only
    rw [if_neg (by decide), if_neg (by decide), if_neg (by decide), if_neg (by decide), if_neg (by decide), if_neg (by decide), if_neg (by decide), if_neg (by decide), if_neg (by decide), if_neg (by decide), if_neg (by decide), if_neg (by decide), if_neg (by decide)]
    exact (i_operator h 5 a (by omega)).mono fun e w' hr => MiQ.of hr (by rw [push_out, pop_out, pop_out])
  · unfold perfI
    dsimp only
    rw [if_neg (by decide), if_neg (by decide), if_neg (by decide), if_neg (by decide), if_neg (by decide), if_neg (by decide), if_neg (by decide), if_neg (by decide), if_neg (by decide), if_neg (by decide), if_neg (by decide), if_neg (by decide), if_neg (by decide)]
    exact (i_operator h 6 a (by omega)).mono fun e w' hr => MiQ.of hr (by rw [push_out, pop_out, pop_out])
  · unfold perfI
    dsimp only
    rw [if_neg (by decide), if_neg (by decide), if_neg (by decide), if_neg (by decide), if_neg (by decide), if_neg (by decide), if_neg (by decide), if_neg (by decide), if_neg (by decide), if_neg (by decide), if_neg (by decide), if_neg (by decide), if_neg (by decide)]
    exact (i_operator h 7 a (by omega)).mono fun e w' hr => MiQ.of hr (by rw [push_out, pop_out, pop_out])
  · unfold perfI
    dsimp only
    rw [if_neg (by decide), if_neg (by decide), if_neg (by decide), if_neg (by decide), if_neg (by decide), if_neg (by decide), if_neg (by decide), if_neg (by decide), if_neg (by decide), if_neg (by decide), if_neg (by decide), if_neg (by decide), if_neg (by decide)]
    exact (i_operator h 8 a (by omega)).mono fun e w' hr => MiQ.of hr (by rw [push_out, pop_out, pop_out])
  · unfold perfI
    dsimp only
    rw [if_neg (by decide), if_neg (by decide), if_neg (by decide), if_neg (by decide), if_neg (by decide), if_neg (by decide), if_neg (by decide), if_neg (by decide), if_neg (by decide), if_neg (by decide), if_neg (by decide), if_neg (by decide), if_neg (by decide)]
    exact (i_operator h 9 a (by omega)).mono fun e w' hr => MiQ.of hr (by rw [push_out, pop_out, pop_out])
  · unfold perfI
    dsimp only
    rw [if_neg (by decide), if_neg (by decide), if_neg (by decide), if_neg (by decide), if_neg (by decide), if_pos (by decide)]
    exact (i_jump h 10 a).mono fun e w' hr => MiQ.of hr (rfl)
  · unfold perfI
    dsimp only
    rw [if_neg (by decide), if_neg (by decide), if_neg (by decide), if_neg (by decide), if_neg (by decide), if_neg (by decide), if_pos (by decide)]
    exact (i_jumpIfZero h 11 a).mono fun e w' hr => MiQ.of hr (by split <;> exact pop_out s)
  · unfold perfI
    dsimp only
    rw [if_neg (by decide), if_neg (by decide), if_neg (by decide), if_neg (by decide), if_neg (by decide), if_neg (by decide), if_neg (by decide), if_pos (by decide)]
    exact (i_callI ea ec E h hE hB1 hB2 12 a (by have := ha (by decide); have := hc (by decide); omega)).mono fun e w' hr => MiQ.of hr (by split; exact rfl; exact push_out _ _)
  · unfold perfI
    dsimp only
    rw [if_neg (by decide), if_neg (by decide), if_neg (by decide), if_neg (by decide), if_neg (by decide), if_neg (by decide), if_neg (by decide), if_neg (by decide), if_pos (by decide)]
    exact (i_enter h 13 a (by have := ha (by decide); have := hc (by decide); omega)).mono fun e w' hr => MiQ.of hr (by rw [zeros_out]; exact push_out _ _)
  · unfold perfI
    dsimp only
    rw [if_neg (by decide), if_neg (by decide), if_neg (by decide), if_neg (by decide), if_neg (by decide), if_neg (by decide), if_neg (by decide), if_neg (by decide), if_neg (by decide), if_pos (by decide)]
    exact (i_leave h 14 a (by have := ha (by decide); have := hc (by decide); omega)).mono fun e w' hr => MiQ.of hr (by unfold perfI.leaveM; dsimp only; rw [push_out, drop_out]; dsimp only; rw [pop_out]; dsimp only; rw [pop_out]; dsimp only; rw [pop_out])
  · unfold perfI
    dsimp only
    rw [if_neg (by decide), if_neg (by decide), if_neg (by decide), if_neg (by decide), if_neg (by decide), if_neg (by decide), if_neg (by decide), if_neg (by decide), if_neg (by decide), if_neg (by decide), if_pos (by decide)]
    exact (i_spaceI h 15 a (by have := ha (by decide); have := hc (by decide); omega)).mono fun e w' hr => MiQ.of hr (zeros_out _ _)
  · unfold perfI
    dsimp only
    rw [if_neg (by decide), if_neg (by decide), if_neg (by decide), if_neg (by decide), if_neg (by decide), if_neg (by decide), if_neg (by decide), if_neg (by decide), if_neg (by decide), if_neg (by decide), if_neg (by decide), if_pos (by decide)]
    exact (i_giveBack h 16 a (by have := ha (by decide); have := hc (by decide); omega)).mono fun e w' hr => MiQ.of hr (by unfold perfI.backM; dsimp only; rw [push_out, drop_out]; dsimp only; rw [pop_out, drop_out, pop_out])
  · unfold perfI
    dsimp only
    rw [if_neg (by decide), if_neg (by decide), if_neg (by decide), if_neg (by decide), if_neg (by decide), if_neg (by decide), if_neg (by decide), if_neg (by decide), if_neg (by decide), if_neg (by decide), if_neg (by decide), if_neg (by decide), if_pos (by decide)]
    refine (i_out h hB1 hO 17 a).mono ?_
    rintro e w' ⟨h1, ov', h2, h3, h4⟩
    exact ⟨h1, ov', h2, h3, h4, Lib.hid (.inr (by rw [pop_m]))⟩
end
end Go.Proofs.YtakgjlpgcepnkaaGreat
