/- BuildOk answers as its model for every build. No condition. -/
import Derived.Test.YtbccejnkklopfaaBldB
import Derived.Test.YtbccejnkklopfaaBldTo
import Derived.Lib.SmallJoins
import Derived.ProofKit
import Derived.OpenShut
import Derived.ShutString
import Derived.ChangeOld
import Derived.Below
import Derived.Carry
namespace Go.Proofs.Ytbccejnkklopfaa.fnExactBuildOk
open Go.ChangeShapes Go.WideShapes Go.ChangeAt Go.RowKit Go.Lib
open Go.ChangeMaps (open_string shut_string)

set_option maxHeartbeats 400000 in
theorem walk (c a : Int) (p q : Bool) (w : World) (_wk : (Lit.int .i64 c).wf = true) (_wn : (Lit.int .i64 a).wf = true) :
    Calls Try.prog 3 #[.agg #[.int .i64 c, .int .i64 a, .bool p, .bool q]] w fun e w' => e = .returned (.bool true) ∧ Below w.heap.size w w' := by
  have S := Lib.hid (fun W => s_buildOk c a p q W)
  have I := Lib.hid (fun W => i_buildOk c a p q W)
  obtain ⟨r, hr⟩ : ∃ r, bldB c a = r := ⟨_, rfl⟩
  rw [hr] at S I
  clear hr _wk _wn
  go_enter Try.func3, Try.ntmps3
  go_wp2_with fail
  refine (l_toBuild c a p q _).mono ?_
  rintro e w1 ⟨rfl, b1⟩
  have B1 := Lib.hid (((Below.refl _ _).alloc (Nat.le_refl _) _).trans (b1.mono (by simp)))
  have hc1 := fun o => b1.cell (p := ⟨w.heap.size, o, none⟩) (by simp)
  have z1 : w.heap.size < w1.heap.size := by have := b1.size; simp at this; omega
  clear b1
  go_wp2_with fail
  refine (S.out _).mono ?_
  rintro e w2 ⟨rfl, b2⟩
  have B2 := Lib.hid (B1.out.trans (b2.mono (by omega)))
  have hc2 := fun o => b2.cell (p := ⟨w.heap.size, o, none⟩) z1
  have z2 : w.heap.size < w2.heap.size := by have := b2.size; omega
  clear b2
  go_wp2_with fail
  refine (l_toBuild c a p q _).mono ?_
  rintro e w3 ⟨rfl, b3⟩
  have B3 := Lib.hid (B2.out.trans (b3.mono (by omega)))
  have z3 : w.heap.size < w3.heap.size := by have := b3.size; omega
  clear b3
  go_wp2_with fail
  refine (I.out _).mono ?_
  rintro e w4 ⟨rfl, b4⟩
  have B4 := Lib.hid (B3.out.trans (b4.mono (by omega)))
  clear b4
  go_wp2
  go_ret
  exact ⟨rfl, B4.out⟩

theorem own : ownKnob Try.prog.godebug = none := by kernel_rfl
theorem laidOut : laidOutB Try.prog = true := by kernel_rfl

set_option maxRecDepth 100000 in
theorem lifted (os : Os) (started : os.Started) (H : Type) (enc : TypeId × Value → H) :
    ReturnsInHanded {} Try.checked os 3 .any (Rows.fnExactBuildOkSpec.pre6 enc Try.prog Try.f3 Rows.fnExactBuildOkRow.domain false) (Rows.fnExactBuildOkSpec.post enc Try.prog Try.f3 false true false false) := by
  refine returnsInHanded_of_change (C := Try.checked) own started (by kernel_rfl) Try.func3
    (ChangeSpec.witness6 (enc := enc) (C := Try.checked) false ⟨#[], #[.agg #[.int .i64 0, .int .i64 0, .bool false, .bool false]], []⟩ 8 (by kernel_rfl) (by kernel_rfl) (by kernel_rfl) (by kernel_rfl)) ?_
  intro W base args ds gs before hval0 hW hcnd _
  have hval : ∀ (j : Nat) t v, Try.f3.params[j]? = some t → args[j]? = some v → Value.okWide Try.prog W .any base t v := hval0
  have hW' := hW
  obtain ⟨p, q, hA0, hV, rfl, hfz, hnd⟩ := hW
  have hA : DataW.TrodAll enc Try.prog W 0 (fun _ => true) true Try.f3.params.toList args.toList ds p := hA0
  rw [Try.params3] at hA hval
  obtain ⟨v0, vs0, d0, ds0, p0, q0, hargs, rfl, rfl, h0, r0⟩ := trodAll_cons hA
  obtain ⟨rfl, rfl, rfl⟩ := trodAll_nil r0
  obtain rfl : args = #[v0] := by cases args; simp_all
  obtain ⟨rfl, rfl⟩ := trodVars_none hV
  have k0 := h0
  have lt0 : ∀ x ∈ p0, x.block < W.heap.size := by obtain ⟨m, hm⟩ := k0; exact DataW.trod_lt m _ _ _ hm
  obtain ⟨va0, vb0, vc0, vd0, _, _, _, _, _, rfl, _, _, e0a, e0b, e0c, e0d⟩ := Joins.open_agg4 Try.underlying23 (by kernel_rfl) (by kernel_rfl) (hval 0 23 v0 rfl rfl) h0
  obtain ⟨ka0, E0, _, wka0⟩ := DataW.trod_int Try.underlying3 e0a
  injection E0 with E0; subst E0
  obtain ⟨na0, E0, _, wna0⟩ := DataW.trod_int Try.underlying3 e0b
  injection E0 with E0; subst E0
  obtain ⟨ba0, E0, _⟩ := DataW.trod_bool Try.underlying4 e0c
  injection E0 with E0; subst E0
  obtain ⟨bb0, E0, _⟩ := DataW.trod_bool Try.underlying4 e0d
  injection E0 with E0; subst E0
  clear hA0 hval0
  refine (walk ka0 na0 ba0 bb0 W wka0 wna0).mono fun e W' ⟨he, bel⟩ => ?_
  subst he
  exact ⟨_, rfl, _, _, _, [], _, [], hW', trodAll_mk1 (shut_bool Try.underlying4 _), (trodAll_cons_mk (Below.trod laidOut (by kernel_rfl) (of_decide_eq_true (by kernel_rfl)) k0 bel lt0) trodAll_mk0), rfl, bel.frame _, fun h => by cases h⟩

theorem over : Rows.fnExactBuildOkRow.holds Try.pinned (OpenSpec.ofChange Rows.fnExactBuildOkSpec) :=
  OpenClaim.holds_of_wide 3 Try.f3 rfl rfl rfl rfl rfl rfl rfl ⟨rfl, rfl, rfl, rfl, rfl⟩ rfl rfl rfl rfl rfl (by kernel_rfl) Try.func3 (by kernel_rfl)
    (of_decide_eq_true (by kernel_rfl)) (by unfold Func.isWrapper; first | (rw [if_pos (by decide +kernel)]; kernel_rfl) | (rw [if_neg (by decide +kernel)]; exact ⟨rfl, rfl⟩))
    (fun os started H enc _ => lifted os started H enc)

theorem proved : Rows.FnExactBuildOkSaid := over
end Go.Proofs.Ytbccejnkklopfaa.fnExactBuildOk
