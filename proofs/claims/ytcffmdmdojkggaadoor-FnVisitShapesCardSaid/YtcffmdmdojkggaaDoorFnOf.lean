/- The model's FunctionOfLine. -/
import Derived.Test.YtcffmdmdojkggaaDoorBeSpec
import Derived.Test.YtcffmdmdojkggaaDoorPlainR
namespace Go.Proofs.YtcffmdmdojkggaaDoor
open Go.RowKit Go.Lib

set_option maxRecDepth 100000 in
set_option maxHeartbeats 1000000 in
theorem s_fnOf (a : Option Addr) (cap : Nat) (X : List LnL) (k : Nat) (w : World) (hl : X.length ≤ 1048576) (hr : ReadL 9 41 w a X) :
    Calls Tryd.prog 13 #[.slice a X.length cap, .int .i64 (k : Int)] w fun e w' => e = .returned (.string (fnN (plL X) k)) ∧ w = w' := by
  have HR := Lib.hid hr
  obtain ⟨M, hM⟩ : ∃ M, (if k < X.length then k + 1 else 0) = M := ⟨_, rfl⟩
  have HM := Lib.hid hM
  clear hr hM
  go_enter Tryd.func13, Tryd.ntmps13
  go_wp2_with fail
  go_loop [5, 6] (fun nm i => ∃ q : Nat, q ≤ M ∧ i = .int .i64 (q : Int) ∧ nm = .string (((plL X).take q).foldl fnStep ⟨#[]⟩)) (fun _ i => M - (intOf i).toNat)
  case atStart => exact ⟨0, Nat.zero_le _, rfl, rfl⟩
  case round =>
    obtain ⟨q, hq, rfl, rfl⟩ := hrel
    by_cases hlt : q < M
    · have hk : k < X.length ∧ q ≤ k := by
        have := HM.out
        by_cases h : k < X.length
        · rw [if_pos h] at this; exact ⟨h, by omega⟩
        · rw [if_neg h] at this; omega
      have hqx : q < X.length := by omega
      have HN := Lib.hid (fn_next (plL X) q (by rw [plL_length]; exact hqx))
      rw [plL_get X q hqx] at HN
      obtain ⟨g, rfl, _, ⟨c0, c1, _, _⟩, _⟩ := HR.out q hqx
      have hkn : fnStep (((plL X).take q).foldl fnStep ⟨#[]⟩) X[q].p = if X[q].kind = 0 then X[q].name else ((plL X).take q).foldl fnStep ⟨#[]⟩ := rfl
      rw [hkn] at HN
      generalize X[q].kind = kd at *
      generalize X[q].name = nm at *
      generalize ((plL X).take q).foldl fnStep ⟨#[]⟩ = cur at *
      have d1 : decide ((q : Int) ≤ (k : Int)) = true := decide_eq_true (by omega)
      have d2 : decide ((k : Int) < (X.length : Int)) = true := decide_eq_true (by omega)
      have k0 : (0 : Int) ≤ (q : Int) := by omega
      have k1 : (q : Int) < (X.length : Int) := by omega
      have d1' : q ≤ k := hk.2
      have d2' : k < X.length := hk.1
      clear hkn
      by_cases h0 : kd = 0
      · have b0 : (kd == 0) = true := by rw [beq_iff_eq]; exact h0
        rw [if_pos h0] at HN
        clear h0
        go_wp2
        go_round
        case rel => exact ⟨q + 1, by omega, by go_num, by rw [HN.out]⟩
        case measure => simp [intOf]; omega
      · have b0 : (kd == 0) = false := by rw [beq_eq_false_iff_ne]; exact h0
        rw [if_neg h0] at HN
        clear h0
        go_wp2
        go_round
        case rel => exact ⟨q + 1, by omega, by go_num, by rw [HN.out]⟩
        case measure => simp [intOf]; omega
    · have hqM : q = M := by omega
      by_cases h : k < X.length
      · have hM := HM.out
        rw [if_pos h] at hM
        have HF : Hid (((plL X).take M).foldl fnStep ⟨#[]⟩ = fnN (plL X) k) := Lib.hid (by unfold fnN; rw [plL_length, if_pos h, ← hM])
        have d1 : decide ((q : Int) ≤ (k : Int)) = false := decide_eq_false (by omega)
        have d1' : ¬ q ≤ k := by omega
        clear hM
        go_wp2
        go_ret
        exact ⟨congrArg (fun s => Ending.returned (Value.string s)) HF.out, rfl⟩
      · have hM := HM.out
        rw [if_neg h] at hM
        have HF : Hid (((plL X).take M).foldl fnStep ⟨#[]⟩ = fnN (plL X) k) := Lib.hid (by unfold fnN; rw [plL_length, if_neg h, ← hM]; rfl)
        have d1 : decide ((q : Int) ≤ (k : Int)) = true := decide_eq_true (by omega)
        have d1' : q ≤ k := by omega
        have d2 : decide ((k : Int) < (X.length : Int)) = false := decide_eq_false (by omega)
        clear hM
        go_wp2
        go_ret
        exact ⟨congrArg (fun s => Ending.returned (Value.string s)) HF.out, rfl⟩
end Go.Proofs.YtcffmdmdojkggaaDoor
