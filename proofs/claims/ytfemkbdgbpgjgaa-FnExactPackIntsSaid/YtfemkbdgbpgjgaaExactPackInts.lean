/- PackInts answers as its model for every row of numbers, and leaves it alone. No condition. -/
import Derived.Test.YtfemkbdgbpgjgaaPackS
import Derived.Test.YtfemkbdgbpgjgaaPackArg
import Derived.Test.YtfemkbdgbpgjgaaIntsTo
import Derived.Test.YtfemkbdgbpgjgaaEqInts
import Derived.Lib.SmallJoins
import Derived.ProofKit
import Derived.OpenShut
import Derived.ShutString
import Derived.ChangeOld
import Derived.Below
import Derived.Carry
namespace Go.Proofs.Ytfemkbdgbpgjgaa.fnExactPackInts
open Go.ChangeShapes Go.WideShapes Go.ChangeAt Go.RowKit Go.Lib Go.Proofs.Ytfemkbdgbpgjgaa
open Go.ChangeMaps (open_string shut_string)

set_option maxRecDepth 100000 in
set_option maxHeartbeats 1000000 in
theorem walk (a : Option Addr) (cap : Nat) (l : List Int) (w : World) (hm : l.length ≤ maxLen) (ha : ArgIn w a l) :
    Calls Try.prog 9 #[.slice a l.length cap] w fun e w' => e = .returned (.bool true) ∧ Below w.heap.size w w' := by
  have HA := Lib.hid ha
  unfold maxLen at hm
  clear ha
  by_cases hbig : 1048576 < l.length
  · have k1 : (1048576 : Int) < (l.length : Int) := by omega
    go_enter Try.func9, Try.ntmps9
    go_wp2
    go_ret
    exact ⟨rfl, Below.refl _ _⟩
  have hl : l.length ≤ 1048576 := by omega
  have k1 : ¬ (1048576 : Int) < (l.length : Int) := by omega
  have TO : Hid (∀ W, Below w.heap.size w W → Calls Try.prog 35 #[.slice a l.length cap] W (IntRes 3 W.heap.size l W)) := Lib.hid (fun W hb => l_toIntS a cap l W hl (HA.out.below hb))
  have SP := Lib.hid (fun va vc W => s_pkI va vc l W (by omega))
  have IP := Lib.hid (fun va vc W => i_pkI va vc l W (by omega))
  obtain ⟨z, hz⟩ : ∃ z : ByteArray, (⟨(pkZ l).toArray⟩ : ByteArray) = z := ⟨_, rfl⟩
  rw [hz] at SP IP
  clear hz hbig
  go_enter Try.func9, Try.ntmps9
  go_wp2_with fail
  refine (TO.out _ (Below.refl _ _)).mono ?_
  rintro e w1 ⟨v1, rfl, O1, b1⟩
  obtain ⟨va, vc, rfl⟩ := owns_shape O1
  have B1 := Lib.hid b1
  have HS := Lib.hid (SP.out va vc w1 (readI_of O1))
  clear O1 b1
  go_wp2_with fail
  refine HS.out.mono ?_
  rintro e w2 ⟨rfl, b2⟩
  have B2 := Lib.hid (B1.out.trans (b2.mono B1.out.size))
  clear HS b2
  go_wp2_with fail
  refine (TO.out _ B2.out).mono ?_
  rintro e w3 ⟨v3, rfl, O3, b3⟩
  obtain ⟨vd, ve, rfl⟩ := owns_shape O3
  have R3 := Lib.hid (readI_of O3)
  have B3 := Lib.hid (B2.out.trans (b3.mono B2.out.size))
  have HI := Lib.hid (IP.out vd ve w3 R3.out)
  clear O3 b3
  go_wp2_with fail
  refine HI.out.mono ?_
  rintro e w4 ⟨rfl, b4⟩
  have R4 := Lib.hid (R3.out.below b4)
  have B4 := Lib.hid (B3.out.trans (b4.mono B3.out.size))
  clear HI b4 R3
  go_wp2_with fail
  refine (TO.out _ B4.out).mono ?_
  rintro e w5 ⟨v5, rfl, O5, b5⟩
  obtain ⟨vf, vg, rfl⟩ := owns_shape O5
  have R6 := Lib.hid (R4.out.below b5)
  have B5 := Lib.hid (B4.out.trans (b5.mono B4.out.size))
  have HE := Lib.hid (l_eqInts vd vf ve vg l w5 R6.out (readI_of O5) (by omega))
  clear O5 b5
  go_wp2_with fail
  refine HE.out.mono ?_
  rintro e w6 ⟨rfl, b6⟩
  have B6 := Lib.hid (B5.out.trans (b6.mono B5.out.size))
  clear b6
  go_wp2
  go_ret
  exact ⟨rfl, B6.out⟩

theorem own : ownKnob Try.prog.godebug = none := by kernel_rfl
theorem laidOut : laidOutB Try.prog = true := by kernel_rfl

set_option maxRecDepth 100000 in
theorem lifted (os : Os) (started : os.Started) (H : Type) (enc : TypeId × Value → H) :
    ReturnsInHanded {} Try.checked os 9 .any (Rows.fnExactPackIntsSpec.pre6 enc Try.prog Try.f9 Rows.fnExactPackIntsRow.domain false) (Rows.fnExactPackIntsSpec.post enc Try.prog Try.f9 false true false false) := by
  refine returnsInHanded_of_change (C := Try.checked) own started (by kernel_rfl) Try.func9
    (ChangeSpec.witness6 (enc := enc) (C := Try.checked) false ⟨#[], #[.slice none 0 0], []⟩ 8 (by kernel_rfl) (by kernel_rfl) (by kernel_rfl) (by kernel_rfl)) ?_
  intro W base args ds gs before hval0 hW hcnd _
  have hval : ∀ (j : Nat) t v, Try.f9.params[j]? = some t → args[j]? = some v → Value.okWide Try.prog W .any base t v := hval0
  have hW' := hW
  obtain ⟨p, q, hA0, hV, rfl, hfz, hnd⟩ := hW
  have hA : DataW.TrodAll enc Try.prog W 0 (fun _ => true) true Try.f9.params.toList args.toList ds p := hA0
  rw [Try.params9] at hA hval
  obtain ⟨v0, vs0, d0, ds0, p0, q0, hargs, rfl, rfl, h0, r0⟩ := trodAll_cons hA
  obtain ⟨rfl, rfl, rfl⟩ := trodAll_nil r0
  obtain rfl : args = #[v0] := by cases args; simp_all
  obtain ⟨rfl, rfl⟩ := trodVars_none hV
  obtain ⟨a0, len0, cap0, rfl⟩ := okWide_slice Try.underlying28 (hval 0 28 v0 rfl rfl)
  have k0 := h0
  have lt0 : ∀ x ∈ p0, x.block < W.heap.size := by obtain ⟨m, hm⟩ := k0; exact DataW.trod_lt m _ _ _ hm
  obtain ⟨l0, hl0, hm0, w0⟩ := argIn_of Try.underlying28 Try.underlying3 (by kernel_rfl) h0
  subst hl0
  clear hA0 hval0
  refine (walk a0 cap0 l0 W hm0 w0).mono fun e W' ⟨he, bel⟩ => ?_
  subst he
  exact ⟨_, rfl, _, _, _, [], _, [], hW', trodAll_mk1 (shut_bool Try.underlying4 _), (trodAll_cons_mk (Below.trod laidOut (by kernel_rfl) (of_decide_eq_true (by kernel_rfl)) k0 bel lt0) trodAll_mk0), rfl, bel.frame _, fun h => by cases h⟩

theorem over : Rows.fnExactPackIntsRow.holds Try.pinned (OpenSpec.ofChange Rows.fnExactPackIntsSpec) :=
  OpenClaim.holds_of_wide 9 Try.f9 rfl rfl rfl rfl rfl rfl rfl ⟨rfl, rfl, rfl, rfl, rfl⟩ rfl rfl rfl rfl rfl (by kernel_rfl) Try.func9 (by kernel_rfl)
    (of_decide_eq_true (by kernel_rfl)) (by unfold Func.isWrapper; first | (rw [if_pos (by decide +kernel)]; kernel_rfl) | (rw [if_neg (by decide +kernel)]; exact ⟨rfl, rfl⟩))
    (fun os started H enc _ => lifted os started H enc)

theorem proved : Rows.FnExactPackIntsSaid := over
end Go.Proofs.Ytfemkbdgbpgjgaa.fnExactPackInts
