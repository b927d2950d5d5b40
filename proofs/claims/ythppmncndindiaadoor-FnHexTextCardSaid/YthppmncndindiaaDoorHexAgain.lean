/- What was written in hexadecimal figures is read again. Nothing of the program. -/
import Derived.Test.YthppmncndindiaaDoorDecPlain
namespace Go.Proofs.YthppmncndindiaaDoor
open Go.RowKit Go.Lib

theorem hv_fig : ∀ n : Fin 16, hvI (figB n.val).toNat = n.val := by decide +kernel
theorem hv_figN (n : Nat) (h : n < 16) : hvI (figB n).toNat = (n : Int) := hv_fig ⟨n, h⟩
theorem pair_fig (c : UInt8) : pairB (figB (c.toNat / 16)) (figB (c.toNat % 16)) = c := by
  have hc := c.toNat_lt
  unfold pairB
  rw [hv_figN _ (by omega), hv_figN _ (by omega)]
  apply UInt8.toNat_inj.1
  rw [UInt8.toNat_ofNat']
  omega
theorem dec_hex (l : List UInt8) : decL (hexL l) = l := by
  induction l with
  | nil => rfl
  | cons c r ih => simp [hexL, decL, ih, pair_fig]
theorem ok_hex (l : List UInt8) : (hexL l).all hvOk = true := by
  induction l with
  | nil => rfl
  | cons c r ih =>
    have hc := c.toNat_lt
    simp only [hexL, List.all_cons, ih, Bool.and_true]
    have h1 : hvOk (figB (c.toNat / 16)) = true := by rw [hvOk_iff, hv_figN _ (by omega)]; omega
    have h2 : hvOk (figB (c.toNat % 16)) = true := by rw [hvOk_iff, hv_figN _ (by omega)]; omega
    rw [h1, h2]; rfl
theorem hex_again (l : List UInt8) (h : l.length ≤ 20000) : decR (hexL l) = (l, true) := by
  rw [decR_yes _ (by rw [hexL_length]; omega) (by rw [hexL_length]; omega) (ok_hex l), dec_hex]
end Go.Proofs.YthppmncndindiaaDoor
