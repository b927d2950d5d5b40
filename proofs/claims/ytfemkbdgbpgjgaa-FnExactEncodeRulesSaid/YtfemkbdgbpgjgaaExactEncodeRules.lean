/- EncodeRules answers as its model for every row of rules, and leaves it alone. No condition. -/
import Derived.Test.YtfemkbdgbpgjgaaVruI
import Derived.Test.YtfemkbdgbpgjgaaVruS
import Derived.Test.YtfemkbdgbpgjgaaRuTo
import Derived.Test.YtfemkbdgbpgjgaaRuEq
import Derived.Lib.SmallJoins
import Derived.ProofKit
import Derived.OpenShut
import Derived.ShutString
import Derived.ChangeOld
import Derived.Below
import Derived.Carry
namespace Go.Proofs.Ytfemkbdgbpgjgaa.fnExactEncodeRules
open Go.ChangeShapes Go.WideShapes Go.ChangeAt Go.RowKit Go.Lib Go.Proofs.Ytfemkbdgbpgjgaa
open Go.ChangeMaps (open_string shut_string)

set_option maxRecDepth 100000 in
set_option maxHeartbeats 2000000 in
theorem walk (a : Option Addr) (cap : Nat) (l : List RuL) (w : World) (hm : l.length ≤ maxLen) (ha : ArgRu w a l) :
    Calls Try.prog 13 #[.slice a l.length cap] w fun e w' => e = .returned (.bool true) ∧ Below w.heap.size w w' := by
  have HA := Lib.hid ha
  have HZ := Lib.hid (l_szRuleS a cap l.length 1048576 w (by omega) (by omega) hm)
  clear ha hm
  go_enter Try.func13, Try.ntmps13
  go_wp2_with fail
  refine HZ.out.mono ?_
  rintro e w0 ⟨r, rfl, rfl, hr⟩
  rcases hr with rfl | ⟨r0, r1⟩
  · go_wp2
    go_ret
    exact ⟨rfl, Below.refl _ _⟩
  have hd : decide (r < 0) = false := by simp; omega
  have hl : l.length ≤ 1048576 := by omega
  have TO : Hid (∀ W, Below w.heap.size w W → Calls Try.prog 44 #[.slice a l.length cap] W (RuRow 61 W.heap.size l W)) := Lib.hid (fun W hb => l_toRuleS a cap l W hl (HA.out.below hb))
  obtain ⟨z, hz⟩ : ∃ z : ByteArray, (⟨(erZ l).toArray⟩ : ByteArray) = z := ⟨_, rfl⟩
  have HZZ := Lib.hid hz
  clear hz r1
  go_wp2_with fail
  refine (TO.out _ (Below.refl _ _)).mono ?_
  rintro e w1 ⟨v1, rfl, O1, b1⟩
  obtain ⟨va, vc, rfl⟩ := slice_shape O1
  have B1 := Lib.hid b1
  have HS := Lib.hid (s_encR va vc l w1 (by omega) (readRu_of O1))
  rw [HZZ.out] at HS
  clear O1 b1
  go_wp2_with fail
  refine HS.out.mono ?_
  rintro e w2 ⟨rfl, b2⟩
  have B2 := Lib.hid (B1.out.trans (b2.mono B1.out.size))
  clear HS b2
  go_wp2_with fail
  refine (TO.out _ B2.out).mono ?_
  rintro e w3 ⟨v3, rfl, O3, b3⟩
  obtain ⟨vd, ve, rfl⟩ := slice_shape O3
  have R3 := Lib.hid (readRu_of O3)
  have B3 := Lib.hid (B2.out.trans (b3.mono B2.out.size))
  have HI := Lib.hid (i_encR vd ve l w3 (by omega) R3.out)
  rw [HZZ.out] at HI
  clear O3 b3
  go_wp2_with fail
  refine HI.out.mono ?_
  rintro e w4 ⟨rfl, b4⟩
  have R4 := Lib.hid (R3.out.below b4)
  have B4 := Lib.hid (B3.out.trans (b4.mono B3.out.size))
  clear HI b4 R3
  go_wp2_with fail
  refine (TO.out _ B4.out).mono ?_
  rintro e w5 ⟨v5, rfl, O5, b5⟩
  obtain ⟨vf, vg, rfl⟩ := slice_shape O5
  have R6 := Lib.hid (R4.out.below b5)
  have B5 := Lib.hid (B4.out.trans (b5.mono B4.out.size))
  have HE := Lib.hid (l_eqRuleS vd vf ve vg l w5 R6.out (readRu_of O5) hl)
  clear O5 b5
  go_wp2_with fail
  refine HE.out.mono ?_
  rintro e w6 ⟨rfl, b6⟩
  have B6 := Lib.hid (B5.out.trans (b6.mono B5.out.size))
  clear b6
  go_wp2
  go_ret
  exact ⟨rfl, B6.out⟩

theorem own : ownKnob Try.prog.godebug = none := by kernel_rfl
theorem laidOut : laidOutB Try.prog = true := by kernel_rfl

set_option maxRecDepth 100000 in
theorem lifted (os : Os) (started : os.Started) (H : Type) (enc : TypeId × Value → H) :
    ReturnsInHanded {} Try.checked os 13 .any (Rows.fnExactEncodeRulesSpec.pre6 enc Try.prog Try.f13 Rows.fnExactEncodeRulesRow.domain false) (Rows.fnExactEncodeRulesSpec.post enc Try.prog Try.f13 false true false false) := by
  refine returnsInHanded_of_change (C := Try.checked) own started (by kernel_rfl) Try.func13
    (ChangeSpec.witness6 (enc := enc) (C := Try.checked) false ⟨#[], #[.slice none 0 0], []⟩ 8 (by kernel_rfl) (by kernel_rfl) (by kernel_rfl) (by kernel_rfl)) ?_
  intro W base args ds gs before hval0 hW hcnd _
  have hval : ∀ (j : Nat) t v, Try.f13.params[j]? = some t → args[j]? = some v → Value.okWide Try.prog W .any base t v := hval0
  have hW' := hW
  obtain ⟨p, q, hA0, hV, rfl, hfz, hnd⟩ := hW
  have hA : DataW.TrodAll enc Try.prog W 0 (fun _ => true) true Try.f13.params.toList args.toList ds p := hA0
  rw [Try.params13] at hA hval
  obtain ⟨v0, vs0, d0, ds0, p0, q0, hargs, rfl, rfl, h0, r0⟩ := trodAll_cons hA
  obtain ⟨rfl, rfl, rfl⟩ := trodAll_nil r0
  obtain rfl : args = #[v0] := by cases args; simp_all
  obtain ⟨rfl, rfl⟩ := trodVars_none hV
  obtain ⟨a0, len0, cap0, rfl⟩ := okWide_slice Try.underlying49 (hval 0 49 v0 rfl rfl)
  have k0 := h0
  have lt0 : ∀ x ∈ p0, x.block < W.heap.size := by obtain ⟨m, hm⟩ := k0; exact DataW.trod_lt m _ _ _ hm
  obtain ⟨l0, hl0, hm0, w0⟩ := argRu_of Try.underlying49 Try.underlying69 (by kernel_rfl) (by kernel_rfl) Try.underlying3 Try.underlying3 Try.underlying4 Try.underlying3 h0
  subst hl0
  clear hA0 hval0
  refine (walk a0 cap0 l0 W hm0 w0).mono fun e W' ⟨he, bel⟩ => ?_
  subst he
  exact ⟨_, rfl, _, _, _, [], _, [], hW', trodAll_mk1 (shut_bool Try.underlying4 _), (trodAll_cons_mk (Below.trod laidOut (by kernel_rfl) (of_decide_eq_true (by kernel_rfl)) k0 bel lt0) trodAll_mk0), rfl, bel.frame _, fun h => by cases h⟩

theorem over : Rows.fnExactEncodeRulesRow.holds Try.pinned (OpenSpec.ofChange Rows.fnExactEncodeRulesSpec) :=
  OpenClaim.holds_of_wide 13 Try.f13 rfl rfl rfl rfl rfl rfl rfl ⟨rfl, rfl, rfl, rfl, rfl⟩ rfl rfl rfl rfl rfl (by kernel_rfl) Try.func13 (by kernel_rfl)
    (of_decide_eq_true (by kernel_rfl)) (by unfold Func.isWrapper; first | (rw [if_pos (by decide +kernel)]; kernel_rfl) | (rw [if_neg (by decide +kernel)]; exact ⟨rfl, rfl⟩))
    (fun os started H enc _ => lifted os started H enc)

theorem proved : Rows.FnExactEncodeRulesSaid := over
end Go.Proofs.Ytfemkbdgbpgjgaa.fnExactEncodeRules
