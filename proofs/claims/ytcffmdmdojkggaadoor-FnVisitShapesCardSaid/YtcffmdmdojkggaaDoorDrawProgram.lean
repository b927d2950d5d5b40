/- What the model's function returns that draws a program from bytes. -/
import Derived.Test.YtcffmdmdojkggaaDoorDrawProg
namespace Go.Proofs.YtcffmdmdojkggaaDoor
open Go.RowKit Go.Lib

theorem owns_low {B B' T n s : Nat} {w : World} {v : Value} {xs : List Value} (h : w.ownsRow B T s v n xs) (hb : B' ≤ B) : w.ownsRow B' T s v n xs := by
  refine ⟨h.1, ?_⟩
  rcases h.2 with h | ⟨g, cap, cur, e, hB, r⟩
  · exact .inl h
  · exact .inr ⟨g, cap, cur, e, Nat.le_trans hb hB, r⟩
/-- A program was drawn by a call of its own. -/
def OneProg (TL TS TK : TypeId) (w : World) (e : Ending) (w' : World) : Prop :=
  ∃ v X, e = .returned v ∧ w'.ownsRow w.heap.size TL 4 v X.length (lnsV X) ∧ v ≠ .slice none 0 0 ∧ AllIn TS TK w' X ∧ (∀ x ∈ X, LnOk x) ∧ 0 < X.length ∧ X.length ≤ 348 ∧ Below w.heap.size w w'

set_option maxRecDepth 100000 in
set_option maxHeartbeats 1000000 in
theorem d_program (a : Option Addr) (len cap : Nat) (z : List Int) (w : World) (H : IsRow .u8 w a len cap z) (hl : len ≤ 1048576) :
    Calls Tryd.prog 6 #[.slice a len cap] w (OneProg 39 9 41 w) := by
  have HC := Lib.hid H
  clear H
  go_enter Tryd.func6, Tryd.ntmps6
  go_wp2_with fail
  refine (d_new a len cap z _ HC.out hl).mono ?_
  rintro e w1 ⟨c, rfl, hc0, hc1, H1, B1⟩
  have K1 := Lib.hid H1; have L1 := Lib.hid B1
  clear H1 B1
  go_wp2_with fail
  refine (d_prog c a len cap z _ K1.out).mono ?_
  rintro e w2 ⟨v, X, rfl, st, hx0, hx1⟩
  have HS := Lib.hid st
  clear st
  have hs1 := L1.out.size
  obtain ⟨gv, cv, rfl, _⟩ := HS.out.form
  have HB : Hid (Below w.heap.size w w2) := Lib.hid (L1.out.grown HS.out.2.2.2.2.2 hs1 (fun k hk => by injection hk with hk; omega))
  go_wp2
  go_ret
  exact ⟨_, X, rfl, owns_low HS.out.1 hs1, HS.out.2.1, HS.out.2.2.1, HS.out.2.2.2.1, hx0, hx1, HB.out⟩
end Go.Proofs.YtcffmdmdojkggaaDoor
