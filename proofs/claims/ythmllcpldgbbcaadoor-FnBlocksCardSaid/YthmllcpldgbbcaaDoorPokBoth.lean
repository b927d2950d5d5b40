/- ProgramOk, the program's and the model's: one answer. -/
import Derived.Test.YthmllcpldgbbcaaDoorPokImpl
import Derived.Test.YthmllcpldgbbcaaDoorPokSpec
namespace Go.Proofs.YthmllcpldgbbcaaDoor
open Go.RowKit Go.Lib

noncomputable def pokB (p : List PLine) : Bool := @decide (OkI p) (Classical.propDecidable _)
theorem pokB_iff (p : List PLine) : pokB p = true ↔ OkI p := by unfold pokB; exact @decide_eq_true_iff _ (Classical.propDecidable _)
theorem pokB_of {p : List PLine} {b : Bool} (h : b = true ↔ OkI p) : b = pokB p := Bool.eq_iff_iff.2 (h.trans (pokB_iff p).symm)
theorem i_progOkB (a : Option Addr) (cap : Nat) (X : List LnL) (w : World) (hl : X.length ≤ 1048576) (hcap : X.length ≤ cap) (hr : ReadL 9 70 w a X) (hz : SzAl X) (hsh : Shapes w) :
    Calls Tryd.prog 7 #[.slice a X.length cap] w fun e w' => e = .returned (.bool (pokB (plL X))) ∧ Below w.heap.size w w' := by
  refine (i_progOk a cap X w hl hcap hr hz hsh).mono ?_
  rintro e w' ⟨b, rfl, hb, h⟩
  exact ⟨by rw [pokB_of hb], h⟩
theorem s_progOkB (a : Option Addr) (cap : Nat) (X : List LnL) (w : World) (hl : X.length ≤ 1048576) (hr : ReadL 9 70 w a X) (hz : SzAl X) :
    Calls Tryd.prog 8 #[.slice a X.length cap] w fun e w' => e = .returned (.bool (pokB (plL X))) ∧ Below w.heap.size w w' := by
  refine (s_progOk a cap X w hl hr hz).mono ?_
  rintro e w' ⟨b, rfl, hb, h⟩
  exact ⟨by rw [pokB_of (hb.trans (ok_iff _).symm)], h⟩
theorem own_cap4 {B T n s m c : Nat} {a : Option Addr} {w : World} {xs : List Value} (h : w.ownsRow B T s (.slice a m c) n xs) : n ≤ c := by
  rcases h.2 with ⟨_, h0⟩ | ⟨g, cap, cur, e, _, _, hn, _⟩
  · omega
  · injection e with _ _ e3
    omega
end Go.Proofs.YthmllcpldgbbcaaDoor
