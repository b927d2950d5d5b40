/- VariableWords answers as its model for every row of items, and leaves it alone. No condition. -/
import Derived.Test.YtbccejnkklopfaaVarW
import Derived.Lib.SmallJoins
import Derived.ProofKit
import Derived.OpenShut
import Derived.ShutString
import Derived.ChangeOld
import Derived.Below
import Derived.Carry
namespace Go.Proofs.Ytbccejnkklopfaa.fnExactVariableWords
open Go.ChangeShapes Go.WideShapes Go.ChangeAt Go.RowKit Go.Lib Go.Proofs.Ytbccejnkklopfaa
open Go.ChangeMaps (open_string shut_string)

set_option maxRecDepth 100000 in
set_option maxHeartbeats 2000000 in
theorem walk (a : Option Addr) (cap : Nat) (l : List AIt) (w : World) (hm : l.length ≤ maxLen) (ha : ArgIts w a l) :
    Calls Try.prog 4 #[.slice a l.length cap] w fun e w' => e = .returned (.bool true) ∧ Below w.heap.size w w' := by
  have HA := Lib.hid ha
  have HZ := Lib.hid (l_szItemS a cap l 1048576 w hm ha (by omega) (by omega))
  clear ha hm
  go_enter Try.func4, Try.ntmps4
  go_wp2_with fail
  refine HZ.out.mono ?_
  rintro e w0 ⟨r, rfl, b0, hr⟩
  have B0 := Lib.hid b0
  rcases hr with rfl | ⟨r0, r1⟩
  · go_wp2
    go_ret
    exact ⟨rfl, B0.out⟩
  have hd : decide (r < 0) = false := by simp; omega
  have hl : l.length ≤ 1048576 := by omega
  have HSM : Hid (∀ x ∈ l, x.p.chain.length ≤ 1048576) := Lib.hid (fun x hx => by have := sumC_mem l x hx; omega)
  have TO : Hid (∀ W, Below w.heap.size w W → Calls Try.prog 10 #[.slice a l.length cap] W (ItmsRes W.heap.size (pitA l) W)) := Lib.hid (fun W hb => l_toItemS a cap l W hl (HA.out.below hb) HSM.out)
  have HPL : Hid ((pitA l).length = l.length) := Lib.hid (by unfold pitA; simp)
  clear r1 b0
  go_wp2_with fail
  refine (TO.out _ B0.out).mono ?_
  rintro e w1 ⟨v1, X1, rfl, O1, M1, P1, b1⟩
  have hx1 : X1.length = l.length := by have := congrArg List.length P1; rw [HPL.out] at this; simpa using this
  obtain ⟨va, vc, rfl⟩ := slice_shape O1
  have R1 := Lib.hid (rowI_of O1 M1)
  have B1 := Lib.hid (B0.out.trans (b1.mono B0.out.size))
  rw [hx1] at R1
  have HS := Lib.hid (s_varW va vc l.length X1 w1 R1.out hx1 (by omega))
  rw [P1] at HS
  rw [hx1]
  clear O1 M1 P1 b1 R1 hx1
  go_wp2_with fail
  refine HS.out.mono ?_
  rintro e w2 ⟨rfl, b2⟩
  have B2 := Lib.hid (B1.out.trans (b2.mono B1.out.size))
  clear HS b2
  go_wp2_with fail
  refine (TO.out _ B2.out).mono ?_
  rintro e w3 ⟨v3, X3, rfl, O3, M3, P3, b3⟩
  have hx3 : X3.length = l.length := by have := congrArg List.length P3; rw [HPL.out] at this; simpa using this
  obtain ⟨vd, ve, rfl⟩ := slice_shape O3
  have R3 := Lib.hid (rowI_of O3 M3)
  have B3 := Lib.hid (B2.out.trans (b3.mono B2.out.size))
  rw [hx3] at R3
  have HI := Lib.hid (i_varW vd ve l.length X3 w3 R3.out hx3 (by omega))
  rw [P3] at HI
  rw [hx3]
  have HX3 := Lib.hid hx3
  clear hx3
  have HP3 := Lib.hid P3
  obtain ⟨z, hz⟩ : ∃ z, varZ (pitA l) = z := ⟨_, rfl⟩
  rw [hz] at HI ⊢
  clear O3 M3 P3 b3 hz
  go_wp2_with fail
  refine HI.out.mono ?_
  rintro e w4 ⟨rfl, b4⟩
  have R4 := Lib.hid (R3.out.below b4)
  have B4 := Lib.hid (B3.out.trans (b4.mono B3.out.size))
  clear HI b4 R3
  go_wp2_with fail
  refine (TO.out _ B4.out).mono ?_
  rintro e w5 ⟨v5, X5, rfl, O5, M5, P5, b5⟩
  have hx5 : X5.length = l.length := by have := congrArg List.length P5; rw [HPL.out] at this; simpa using this
  obtain ⟨vf, vg, rfl⟩ := slice_shape O5
  have R5 := Lib.hid (rowI_of O5 M5)
  have R6 := Lib.hid (R4.out.below b5)
  have B5 := Lib.hid (B4.out.trans (b5.mono B4.out.size))
  have HCH : Hid (∀ x ∈ X3, x.p.chain.length ≤ 1048576) := Lib.hid (fun x hx => by
    have h1 : x.p ∈ X3.map (·.p) := List.mem_map.2 ⟨x, hx, rfl⟩
    rw [HP3.out] at h1
    unfold pitA at h1
    obtain ⟨y, hy, e⟩ := List.mem_map.1 h1
    rw [← e]
    exact HSM.out y hy)
  rw [hx5] at R5
  have HE := Lib.hid (l_eqItemS vd vf ve vg l.length X3 X5 w5 R6.out R5.out (HP3.out.trans P5.symm) HX3.out (by omega) HCH.out)
  rw [hx5]
  clear O5 M5 P5 b5 hx5
  go_wp2_with fail
  refine HE.out.mono ?_
  rintro e w6 ⟨rfl, b6⟩
  have B6 := Lib.hid (B5.out.trans (b6.mono B5.out.size))
  clear b6
  go_wp2
  go_ret
  exact ⟨rfl, B6.out⟩

theorem own : ownKnob Try.prog.godebug = none := by kernel_rfl
theorem laidOut : laidOutB Try.prog = true := by kernel_rfl

set_option maxRecDepth 100000 in
theorem lifted (os : Os) (started : os.Started) (H : Type) (enc : TypeId × Value → H) :
    ReturnsInHanded {} Try.checked os 4 .any (Rows.fnExactVariableWordsSpec.pre6 enc Try.prog Try.f4 Rows.fnExactVariableWordsRow.domain false) (Rows.fnExactVariableWordsSpec.post enc Try.prog Try.f4 false true false false) := by
  refine returnsInHanded_of_change (C := Try.checked) own started (by kernel_rfl) Try.func4
    (ChangeSpec.witness6 (enc := enc) (C := Try.checked) false ⟨#[], #[.slice none 0 0], []⟩ 8 (by kernel_rfl) (by kernel_rfl) (by kernel_rfl) (by kernel_rfl)) ?_
  intro W base args ds gs before hval0 hW hcnd _
  have hval : ∀ (j : Nat) t v, Try.f4.params[j]? = some t → args[j]? = some v → Value.okWide Try.prog W .any base t v := hval0
  have hW' := hW
  obtain ⟨p, q, hA0, hV, rfl, hfz, hnd⟩ := hW
  have hA : DataW.TrodAll enc Try.prog W 0 (fun _ => true) true Try.f4.params.toList args.toList ds p := hA0
  rw [Try.params4] at hA hval
  obtain ⟨v0, vs0, d0, ds0, p0, q0, hargs, rfl, rfl, h0, r0⟩ := trodAll_cons hA
  obtain ⟨rfl, rfl, rfl⟩ := trodAll_nil r0
  obtain rfl : args = #[v0] := by cases args; simp_all
  obtain ⟨rfl, rfl⟩ := trodVars_none hV
  obtain ⟨a0, len0, cap0, rfl⟩ := okWide_slice Try.underlying28 (hval 0 28 v0 rfl rfl)
  have k0 := h0
  have lt0 : ∀ x ∈ p0, x.block < W.heap.size := by obtain ⟨m, hm⟩ := k0; exact DataW.trod_lt m _ _ _ hm
  obtain ⟨l0, hl0, hm0, w0⟩ := argIts_of Try.underlying28 Try.underlying41 (by kernel_rfl) Try.underlying38 (by kernel_rfl) rfl rfl rfl rfl rfl rfl rfl rfl (by kernel_rfl) (by kernel_rfl) (by kernel_rfl) (by kernel_rfl) (by kernel_rfl) (by kernel_rfl) (by kernel_rfl) Try.underlying3 Try.underlying3 Try.underlying3 Try.underlying4 Try.underlying39 Try.underlying3 (by kernel_rfl) Try.underlying3 Try.underlying4 rfl rfl h0
  subst hl0
  clear hA0 hval0
  refine (walk a0 cap0 l0 W hm0 w0).mono fun e W' ⟨he, bel⟩ => ?_
  subst he
  exact ⟨_, rfl, _, _, _, [], _, [], hW', trodAll_mk1 (shut_bool Try.underlying4 _), (trodAll_cons_mk (Below.trod laidOut (by kernel_rfl) (of_decide_eq_true (by kernel_rfl)) k0 bel lt0) trodAll_mk0), rfl, bel.frame _, fun h => by cases h⟩

theorem over : Rows.fnExactVariableWordsRow.holds Try.pinned (OpenSpec.ofChange Rows.fnExactVariableWordsSpec) :=
  OpenClaim.holds_of_wide 4 Try.f4 rfl rfl rfl rfl rfl rfl rfl ⟨rfl, rfl, rfl, rfl, rfl⟩ rfl rfl rfl rfl rfl (by kernel_rfl) Try.func4 (by kernel_rfl)
    (of_decide_eq_true (by kernel_rfl)) (by unfold Func.isWrapper; first | (rw [if_pos (by decide +kernel)]; kernel_rfl) | (rw [if_neg (by decide +kernel)]; exact ⟨rfl, rfl⟩))
    (fun os started H enc _ => lifted os started H enc)

theorem proved : Rows.FnExactVariableWordsSaid := over
end Go.Proofs.Ytbccejnkklopfaa.fnExactVariableWords
