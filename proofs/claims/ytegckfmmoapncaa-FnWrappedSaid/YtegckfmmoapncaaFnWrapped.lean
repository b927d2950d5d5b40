/- The law FnWrapped holds for every row of bytes. No condition. -/
import Derived.Test.YtegckfmmoapncaaWrapImpl
import Derived.Test.YtegckfmmoapncaaAt
import Derived.Test.YtegckfmmoapncaaBig
import Derived.ProofKit
import Derived.OpenShut
import Derived.ShutString
import Derived.ChangeOld
import Derived.Below
import Derived.Carry
namespace Go.Proofs.Ytegckfmmoapncaa.fnWrapped
open Go.ChangeShapes Go.WideShapes Go.ChangeAt Go.RowKit Go.Lib
open Go.ChangeMaps (open_string shut_string)

set_option maxHeartbeats 1000000 in
theorem walk (a : Option Addr) (len cap : Nat) (z : List Int) (w : World) (H : IsRow .u8 w a len cap z) :
    Calls Try.prog 3 #[.slice a len cap] w fun e w' => e = .returned (.bool true) ∧ Below w.heap.size w w' := by
  have hlm : len ≤ 9223372036854775807 := by
    rcases H with ⟨_, rfl, _⟩ | ⟨x, _, h1, h2, _⟩
    · omega
    · unfold maxLen at h2; omega
  have HC := Lib.hid H
  clear H
  by_cases hb : 1048576 < len
  · go_enter Try.func3, Try.ntmps3
    go_wp2_with (first | (go_at_call 10; refine (big_yes a len cap _ hb hlm).mono ?_; rintro e w' ⟨rfl, rfl⟩))
    go_ret
    exact ⟨rfl, Below.refl _ _⟩
  have hl : len ≤ 1048576 := by omega
  go_enter Try.func3, Try.ntmps3
  go_wp2_with fail
  refine (big_no a len cap _ hl).mono ?_
  rintro e w' ⟨rfl, rfl⟩
  go_wp2_with fail
  refine (l_at a len cap z _ _ HC.out hl (by omega) (by omega)).mono ?_
  rintro e w' ⟨x, x0, x1, rfl, rfl⟩
  go_wp2_with fail
  refine (l_at a len cap z _ _ HC.out hl (by omega) (by omega)).mono ?_
  rintro e w' ⟨y, y0, y1, rfl, rfl⟩
  go_wp2_with fail
  have A0 : -1000000000000 ≤ (x - 128) * 16777217 * 64 := by omega
  have A1 : (x - 128) * 16777217 * 64 ≤ 1000000000000 := by omega
  have B0 : -1000000000000 ≤ (y - 128) * 33554393 := by omega
  have B1 : (y - 128) * 33554393 ≤ 1000000000000 := by omega
  obtain ⟨A, hA⟩ : ∃ A, (x - 128) * 16777217 * 64 = A := ⟨_, rfl⟩
  obtain ⟨B, hB⟩ : ∃ B, (y - 128) * 33554393 = B := ⟨_, rfl⟩
  rw [hA] at A0 A1 ⊢
  rw [hB] at B0 B1 ⊢
  clear hA hB
  obtain ⟨P1, P2, P3, P4⟩ := wrapped_all A B
  have X0 := W32_lo A
  have X1 := W32_hi A
  have L0 := (appZ_bit 5 A B (.inl rfl)).1
  have L1 := (appZ_bit 5 A B (.inl rfl)).2
  have M0 := (appZ_bit 5 B A (.inl rfl)).1
  have M1 := (appZ_bit 5 B A (.inl rfl)).2
  have N0 := (appZ_bit 6 A B (.inr rfl)).1
  have N1 := (appZ_bit 6 A B (.inr rfl)).2
  go_wp2_with (first | (go_at_call 12; refine (i_wrap _ _).mono ?_; rintro e w' ⟨rfl, rfl⟩) | (go_at_call 13; refine (i_apply _ _ _ _).mono ?_; rintro e w' ⟨rfl, rfl⟩))
  go_ret
  exact ⟨rfl, Below.refl _ _⟩

theorem own : ownKnob Try.prog.godebug = none := by kernel_rfl
theorem laidOut : laidOutB Try.prog = true := by kernel_rfl

set_option maxRecDepth 100000 in
theorem lifted (os : Os) (started : os.Started) (H : Type) (enc : TypeId × Value → H) :
    ReturnsInHanded {} Try.checked os 3 .any (Rows.fnWrappedSpec.pre6 enc Try.prog Try.f3 Rows.fnWrappedRow.domain false) (Rows.fnWrappedSpec.post enc Try.prog Try.f3 false true false false) := by
  refine returnsInHanded_of_change (C := Try.checked) own started (by kernel_rfl) Try.func3
    (ChangeSpec.witness6 (enc := enc) (C := Try.checked) false ⟨#[], #[.slice none 0 0], []⟩ 8 (by kernel_rfl) (by kernel_rfl) (by kernel_rfl) (by kernel_rfl)) ?_
  intro W base args ds gs before hval0 hW hcnd _
  have hval : ∀ (j : Nat) t v, Try.f3.params[j]? = some t → args[j]? = some v → Value.okWide Try.prog W .any base t v := hval0
  have hW' := hW
  obtain ⟨p, q, hA0, hV, rfl, hfz, hnd⟩ := hW
  have hA : DataW.TrodAll enc Try.prog W 0 (fun _ => true) true Try.f3.params.toList args.toList ds p := hA0
  rw [Try.params3] at hA hval
  obtain ⟨v0, vs0, d0, ds0, p0, q0, hargs, rfl, rfl, h0, r0⟩ := trodAll_cons hA
  obtain ⟨rfl, rfl, rfl⟩ := trodAll_nil r0
  obtain rfl : args = #[v0] := by cases args; simp_all
  obtain ⟨rfl, rfl⟩ := trodVars_none hV
  obtain ⟨a0, len0, cap0, rfl⟩ := okWide_slice Try.underlying22 (hval 0 22 v0 rfl rfl)
  have k0 := h0
  have lt0 : ∀ x ∈ p0, x.block < W.heap.size := by obtain ⟨m, hm⟩ := k0; exact DataW.trod_lt m _ _ _ hm
  obtain ⟨z0, w0⟩ : ∃ zs, IsRow .u8 W a0 len0 cap0 zs := by
    obtain ⟨fuel, hf⟩ := h0
    rcases open_ints Try.underlying22 Try.underlying5 (by kernel_rfl) hf with ⟨hcs, _⟩ | ⟨x, l, c, zs, hcs, _, hl, hm, hz, _, hcell, hwz⟩
    · simp [Value.cells] at hcs
      obtain ⟨rfl, rfl, rfl⟩ := hcs
      exact ⟨[], .inl ⟨rfl, rfl, rfl, rfl⟩⟩
    · simp [Value.cells] at hcs
      obtain ⟨rfl, rfl, rfl⟩ := hcs
      exact ⟨zs, .inr ⟨_, rfl, hl, hm, by simpa using hz, hcell, hwz⟩⟩
  clear hA0 hval0
  refine (walk a0 len0 cap0 z0 W w0).mono fun e W' ⟨he, bel⟩ => ?_
  subst he
  exact ⟨_, rfl, _, _, _, [], _, [], hW', trodAll_mk1 (shut_bool Try.underlying4 _), (trodAll_cons_mk (Below.trod laidOut (by kernel_rfl) (of_decide_eq_true (by kernel_rfl)) k0 bel lt0) trodAll_mk0), rfl, bel.frame _, fun h => by cases h⟩

theorem over : Rows.fnWrappedRow.holds Try.pinned (OpenSpec.ofChange Rows.fnWrappedSpec) :=
  OpenClaim.holds_of_wide 3 Try.f3 rfl rfl rfl rfl rfl rfl rfl ⟨rfl, rfl, rfl, rfl, rfl⟩ rfl rfl rfl rfl rfl (by kernel_rfl) Try.func3 (by kernel_rfl)
    (of_decide_eq_true (by kernel_rfl)) (by unfold Func.isWrapper; first | (rw [if_pos (by decide +kernel)]; kernel_rfl) | (rw [if_neg (by decide +kernel)]; exact ⟨rfl, rfl⟩))
    (fun os started H enc _ => lifted os started H enc)

theorem proved : Rows.FnWrappedSaid := over
end Go.Proofs.Ytegckfmmoapncaa.fnWrapped
