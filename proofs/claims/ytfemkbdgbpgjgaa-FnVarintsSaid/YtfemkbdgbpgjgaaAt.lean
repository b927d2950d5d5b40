/- The laws' at: a byte of the draw. -/
import Derived.Test.YtfemkbdgbpgjgaaRows
import Derived.Test.YtfemkbdgbpgjgaaPlainB
import Derived.Outline
import Derived.Lib.Hide
namespace Go.Proofs.Ytfemkbdgbpgjgaa
open Go.RowKit Go.Lib

def AtP (w : World) (e : Ending) (w' : World) : Prop := ∃ v : Int, 0 ≤ v ∧ v ≤ 255 ∧ e = .returned (.int .i64 v) ∧ w = w'

theorem l_at (a : Option Addr) (len cap : Nat) (z : List Int) (i : Int) (w : World) (H : IsRow .u8 w a len cap z) (hl : len ≤ 1048576) (h0 : 0 ≤ i) (h1 : i ≤ 1000) :
    Calls Try.prog 16 #[.slice a len cap, .int .i64 i] w (AtP w) := by
  rcases H with ⟨rfl, rfl, rfl, rfl⟩ | ⟨x, rfl, h2, h3, h4, h5, h6⟩
  · go_enter Try.func16, Try.ntmps16
    go_wp2
    go_ret
    exact ⟨0, by omega, by omega, rfl, rfl⟩
  · by_cases hz : len = 0
    · subst hz
      clear h5 h6 h4
      go_enter Try.func16, Try.ntmps16
      go_wp2
      go_ret
      exact ⟨0, by omega, by omega, rfl, rfl⟩
    have hp : 0 < len := by omega
    have m0 := Int.emod_nonneg (i * 5 + 1) (b := (len : Int)) (by omega)
    have m1 := Int.emod_lt_of_pos (i * 5 + 1) (b := (len : Int)) (by omega)
    obtain ⟨j, hj⟩ := Int.eq_ofNat_of_zero_le m0
    have hjl : j < len := by omega
    have hc := h5 j (by omega)
    obtain ⟨v, hv⟩ : ∃ v, z.getD j 0 = v := ⟨_, rfl⟩
    have hwf : (Lit.int .u8 v).wf = true := h6 v (by rw [← hv]; simp [List.getD, (by omega : j < z.length)])
    rw [hv] at hc
    have m0' : IntKind.u8.min = 0 := by decide
    have m1' : IntKind.u8.max = 255 := by decide
    simp [Lit.wf] at hwf
    have v0 : 0 ≤ v := by omega
    have v1 : v ≤ 255 := by omega
    have he : ((len : Int) == 0) = false := by simp; omega
    have k0 : (0 : Int) ≤ (j : Int) := by omega
    have k1 : (j : Int) < (len : Int) := by omega
    clear h5 h6 hv hwf hz m0 m1 m0' m1'
    go_enter Try.func16, Try.ntmps16
    go_wp2
    go_ret
    exact ⟨v, v0, v1, rfl, rfl⟩
end Go.Proofs.Ytfemkbdgbpgjgaa
