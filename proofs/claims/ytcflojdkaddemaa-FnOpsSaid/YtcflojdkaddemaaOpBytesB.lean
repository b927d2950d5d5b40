/- The program's bytesOf. -/
import Derived.Test.YtcflojdkaddemaaOpBytes
import Derived.Deep.WholeRow
import Derived.Deep.Cut
namespace Go.Proofs.Ytcflojdkaddemaa
open Go.RowKit Go.Lib

set_option maxHeartbeats 1000000 in
theorem i_bytes (a : Int) (w : World) (ha : (Lit.int .i64 a).wf = true) :
    Calls Try.prog 37 #[.int .i64 a] w fun e w' => e = .returned (.agg (arrC (argB a 8))) ∧ Below w.heap.size w w' := by
  go_enter Try.func37, Try.ntmps37
  go_wp2_with fail
  go_loopw [4, 5] (fun _ x wr => ∃ k : Nat, k ≤ 8 ∧ x = .int .i64 (k : Int) ∧ wr = ((w.alloc (.cells (arrC (List.replicate 8 0)) 71)).alloc (.cells (arrC (fillB a k)) 71)))
    (fun _ x _ => 8 - (intOf x).toNat)
  case atStart => exact ⟨0, by omega, rfl, rfl⟩
  case round =>
    obtain ⟨k, hk, rfl, rfl⟩ := hrel
    by_cases hlt : k < 8
    · have hs := Lib.hid (fillB_set a k hlt)
      have hb := Lib.hid (shr_byte a k hlt)
      have hc := Lib.hid (arrC_at (fillB a k) k (by rw [fillB_length a k (by omega)]; omega))
      obtain ⟨Z, hZ⟩ : ∃ Z, arrC (List.replicate 8 0) = Z := ⟨_, rfl⟩
      rw [hZ]
      obtain ⟨F, hF⟩ : ∃ F, arrC (fillB a k) = F := ⟨_, rfl⟩
      rw [hF] at hs hc
      rw [hF]
      have HF := Lib.hid hF
      have HZ := Lib.hid hZ
      clear hF hZ
      have hcc := hc.out
      have k0 : (0 : Int) ≤ (k : Int) := by omega
      have k1 : (k : Int) < 8 := by omega
      go_wp2_with fail
      go_roundw
      case rel => exact ⟨k + 1, by omega, by go_num, by rw [hb.out, hs.out]⟩
      case measure => simp [intOf]; omega
    · have hk8 : k = 8 := by omega
      obtain ⟨x0, x1, x2, x3, x4, x5, x6, x7, hx⟩ := arr8 (fillB a k) (fillB_length a k hk)
      have HX := Lib.hid hx
      have HF : Hid (arrC (argB a 8) = arrC (fillB a k)) := Lib.hid (by rw [hk8, fillB_eight])
      rw [hx]
      rw [show arrC (List.replicate 8 0) = #[.int .u8 0, .int .u8 0, .int .u8 0, .int .u8 0, .int .u8 0, .int .u8 0, .int .u8 0, .int .u8 0] from rfl]
      clear hx hk8
      have k1 : ¬ (k : Int) < 8 := by omega
      go_wp2_with fail
      refine bodyPost_ret (v := .agg #[.int .u8 x0, .int .u8 x1, .int .u8 x2, .int .u8 x3, .int .u8 x4, .int .u8 x5, .int .u8 x6, .int .u8 x7]) (by simp [results, Try.results37, go_sem]) rfl ⟨by rw [HF.out, HX.out], ?_⟩
      exact ((Below.refl _ _).alloc (Nat.le_refl _) _).alloc (by simp) _

end Go.Proofs.Ytcflojdkaddemaa
