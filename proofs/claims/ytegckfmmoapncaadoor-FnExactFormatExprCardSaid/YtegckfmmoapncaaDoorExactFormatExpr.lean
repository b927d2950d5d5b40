/- FormatExpr answers as its model for every row of tokens, and leaves the row alone; the tables of Go's library that it names are as their own initialisers lay them (the card ties that to the text). -/
import Derived.Test.YtegckfmmoapncaaDoorCards
import Derived.Test.YtegckfmmoapncaaDoorTie
import Derived.Test.YtegckfmmoapncaaDoorFexSpec
import Derived.Test.YtegckfmmoapncaaDoorFexImpl
import Derived.Deep.DeepHandedRow
import Derived.LaidMore
import Derived.Test.YtegckfmmoapncaaDoorTokSz
import Derived.Test.YtegckfmmoapncaaDoorTokTo
import Derived.Test.YtegckfmmoapncaaDoorTokEq
import Derived.ProofKit
import Derived.OpenShut
import Derived.ShutString
import Derived.ChangeOld
import Derived.Below
import Derived.Carry
namespace Go.Proofs.YtegckfmmoapncaaDoor.fnExactFormatExpr
open Go.ChangeShapes Go.WideShapes Go.ChangeAt Go.RowKit Go.Lib
open Go.ChangeMaps (open_string shut_string)

theorem names_of {w : World} {a : Option Addr} {l : List TokL} (h : ArgT w a l) : ∀ j (hj : j < l.length), l[j].name.size ≤ maxLen := fun j hj => by
  obtain ⟨_, _, _, _, _, _, h, _⟩ := h j hj
  exact h

set_option maxHeartbeats 1000000 in
theorem walk (a : Option Addr) (cap : Nat) (l : List TokL) (w : World) (hm : l.length ≤ maxLen) (ha : ArgT w a l) (hL : laidMet Tryd.prog Rows.fnExactFormatExprRow.laid w) :
    Calls Tryd.prog 6 #[.slice a l.length cap] w fun e w' => e = .returned (.bool true) ∧ Below w.heap.size w w' := by
  have HTAB := Lib.hid (pow_of hL)
  clear hL
  have HA := Lib.hid ha
  have HN := Lib.hid (names_of ha)
  clear ha
  go_enter Tryd.func6, Tryd.ntmps6
  go_wp2_with fail
  refine (l_szTokS a cap l 1048576 _ hm HA.out (by omega) (by omega)).mono ?_
  rintro e w1 ⟨r, rfl, b1, hr⟩
  have HA1 := Lib.hid (HA.out.below b1)
  have HB1 := Lib.hid b1
  have z1 := b1.size
  clear b1
  rcases hr with rfl | ⟨hr0, hle⟩
  · go_wp2
    go_ret
    exact ⟨rfl, HB1.out⟩
  have hl : l.length ≤ 1048576 := by omega
  have hd : decide (r < 0) = false := by simp; omega
  have S := Lib.hid (fun (W : World) a c h => s_fexpr a c l W hl h HN.out)
  have I := Lib.hid (fun (W : World) a c h (hW : Below w.heap.size w W) => i_fexpr a c l W hl h HN.out (pow_on HTAB.out hW))
  obtain ⟨R, hR⟩ : ∃ R, fexZ l = R := ⟨_, rfl⟩
  rw [hR] at S I
  clear hR
  go_wp2_with fail
  refine (l_toTokS a cap l _ hl HA1.out).mono ?_
  rintro e w2 ⟨v0, rfl, O0, b2⟩
  obtain ⟨a0, c0, rfl⟩ := owns3_shape O0
  have R0 := Lib.hid (readT_of O0)
  have HA2 := Lib.hid (HA1.out.below b2)
  have HB2 := Lib.hid (HB1.out.trans (b2.mono z1))
  have z2 := HB2.out.size
  clear b2 O0 hd
  go_wp2_with fail
  refine (S.out _ _ _ R0.out).mono ?_
  rintro e w3 ⟨rfl, b3⟩
  have HA3 := Lib.hid (HA2.out.below b3)
  have HB3 := Lib.hid (HB2.out.trans (b3.mono z2))
  have z3 := HB3.out.size
  clear b3 R0
  go_wp2_with fail
  refine (l_toTokS a cap l _ hl HA3.out).mono ?_
  rintro e w4 ⟨v1, rfl, O1, b4⟩
  obtain ⟨a1, c1, rfl⟩ := owns3_shape O1
  have R1 := Lib.hid (readT_of O1)
  have HA4 := Lib.hid (HA3.out.below b4)
  have HB4 := Lib.hid (HB3.out.trans (b4.mono z3))
  have z4 := HB4.out.size
  clear b4 O1
  go_wp2_with fail
  refine (I.out _ _ _ R1.out HB4.out).mono ?_
  rintro e w5 ⟨rfl, b5⟩
  have HA5 := Lib.hid (HA4.out.below b5)
  have HB5 := Lib.hid (HB4.out.trans (b5.mono z4))
  have R15 := Lib.hid (R1.out.below b5)
  have z5 := HB5.out.size
  clear b5 R1
  go_wp2_with fail
  refine (l_toTokS a cap l _ hl HA5.out).mono ?_
  rintro e w6 ⟨v2, rfl, O2, b6⟩
  obtain ⟨a2, c2, rfl⟩ := owns3_shape O2
  have R2 := Lib.hid (readT_of O2)
  have R16 := Lib.hid (R15.out.below b6)
  have HB6 := Lib.hid (HB5.out.trans (b6.mono z5))
  have z6 := HB6.out.size
  clear b6 O2
  go_wp2_with fail
  refine (l_eqTokS a1 a2 c1 c2 l _ R16.out R2.out hl).mono ?_
  rintro e w7 ⟨rfl, b7⟩
  have HB7 := Lib.hid (HB6.out.trans (b7.mono z6))
  clear b7
  go_wp2
  go_ret
  exact ⟨rfl, HB7.out⟩

theorem own : ownKnob Tryd.prog.godebug = none := by kernel_rfl
theorem laidOut : laidOutB Tryd.prog = true := by kernel_rfl

theorem door_met (os : Os) (args : Array Value) : laidMetH Tryd.prog Rows.fnExactFormatExprRow.laid ((World.doorLaid Tryd.prog 400 os).forCall (fun _ _ => 0) ⟨#[], args, []⟩).memory :=
  laidMetH_of_parts3 (fuel := 8) (laidMet_of_run' 8 (by kernel_rfl) (by kernel_rfl)) (by kernel_rfl) (by kernel_rfl)

set_option maxRecDepth 100000 in
theorem lifted (os : Os) (started : os.Started) (H : Type) (enc : TypeId × Value → H) :
    ReturnsInHanded {} Tryd.checked os 6 .any (fun w args => (Rows.fnExactFormatExprSpec.pre enc Tryd.prog Tryd.f6 [] false w args ∧ laidMetH Tryd.prog Rows.fnExactFormatExprRow.laid w) ∧ sizedMet enc Tryd.prog Tryd.f6 (OpenSpec.ofChange Rows.fnExactFormatExprSpec) false w args) (Rows.fnExactFormatExprSpec.post enc Tryd.prog Tryd.f6 false true false false) := by
  refine returnsInHanded_of_change_and (C := Tryd.checked) (X := fun w _ => laidMetH Tryd.prog Rows.fnExactFormatExprRow.laid w) (fun _ _ _ hh h => h.of_heap hh) own started (by kernel_rfl) Tryd.func6
    (ChangeSpec.witness_shaped (enc := enc) (C := Tryd.checked) (os := os) (X := fun w _ => laidMetH Tryd.prog Rows.fnExactFormatExprRow.laid w) false (World.doorLaid Tryd.prog 400 os) #[.slice none 0 0] 8 rfl (World.shaped_of_RefB (by kernel_rfl) (by kernel_rfl)) (by kernel_rfl) (by kernel_rfl) (by kernel_rfl) (door_met os _)) ?_
  intro W base args ds gs before hval0 hW _ _ hLH _
  have hL : laidMet Tryd.prog Rows.fnExactFormatExprRow.laid W := by rw [MakeChecks.laidMetH_plain _ _ _ (by kernel_rfl)] at hLH; exact hLH
  have hval : ∀ (j : Nat) t v, Tryd.f6.params[j]? = some t → args[j]? = some v → Value.okWide Tryd.prog W .any base t v := hval0
  have hW' := hW
  obtain ⟨p, q, hA0, hV, rfl, hfz, hnd⟩ := hW
  have hA : DataW.TrodAll enc Tryd.prog W 0 (fun _ => true) true Tryd.f6.params.toList args.toList ds p := hA0
  rw [Tryd.params6] at hA hval
  obtain ⟨v0, vs0, d0, ds0, p0, q0, hargs, rfl, rfl, h0, r0⟩ := trodAll_cons hA
  obtain ⟨rfl, rfl, rfl⟩ := trodAll_nil r0
  obtain rfl : args = #[v0] := by cases args; simp_all
  obtain ⟨rfl, rfl⟩ := trodVars_none hV
  obtain ⟨a0, len0, cap0, rfl⟩ := okWide_slice Tryd.underlying49 (hval 0 49 v0 rfl rfl)
  have k0 := h0
  have lt0 : ∀ x ∈ p0, x.block < W.heap.size := by obtain ⟨m, hm⟩ := k0; exact DataW.trod_lt m _ _ _ hm
  obtain ⟨l0, hl0, hm0, w0⟩ := argT_of Tryd.underlying49 Tryd.underlying41 (by kernel_rfl) (by kernel_rfl) Tryd.underlying3 Tryd.underlying3 Tryd.underlying9 h0
  subst hl0
  clear hA0 hval0
  refine (walk a0 cap0 l0 W hm0 w0 hL).mono fun e W' ⟨he, bel⟩ => ?_
  subst he
  exact ⟨_, rfl, _, _, _, [], _, [], hW', trodAll_mk1 (shut_bool Tryd.underlying4 _), (trodAll_cons_mk (Below.trod laidOut (by kernel_rfl) (of_decide_eq_true (by kernel_rfl)) k0 bel lt0) trodAll_mk0), rfl, bel.frame _, fun h => by cases h⟩

theorem over : Rows.fnExactFormatExprRow.holds Tryd.pinned (OpenSpec.ofChange Rows.fnExactFormatExprSpec) :=
  OpenClaim.holds_of_wide 6 Tryd.f6 rfl rfl rfl rfl rfl rfl rfl ⟨rfl, rfl, rfl, rfl, rfl⟩ rfl rfl rfl rfl rfl (by kernel_rfl) Tryd.func6 (by kernel_rfl)
    (of_decide_eq_true (by kernel_rfl)) (by unfold Func.isWrapper; first | (rw [if_pos (by decide +kernel)]; kernel_rfl) | (rw [if_neg (by decide +kernel)]; exact ⟨rfl, rfl⟩))
    (fun os started H enc _ => lifted os started H enc)

theorem said : Rows.FnExactFormatExprSaid := over
theorem plain (f : FuncId) (fn : Func) (hf : Tryd.pinned.checked.prog.funcNamed "loop.example/g03314/laws.FnExactFormatExpr" = some f) (hfn : Tryd.pinned.checked.prog.funcs[f]? = some fn) :
    Rows.fnExactFormatExprCard.stood.looks = Tryd.pinned.checked.prog.looks [] ∧ ∀ (j : Nat) t, fn.params[j]? = some t → Tryd.pinned.checked.prog.wantsStandIn t = false := by
  obtain rfl : f = 6 := Option.some.inj ((show Tryd.prog.funcNamed "loop.example/g03314/laws.FnExactFormatExpr" = some 6 by kernel_rfl).symm.trans hf) |>.symm
  obtain rfl : fn = Tryd.f6 := (Option.some.inj (Tryd.func6.symm.trans hfn)).symm
  refine ⟨by kernel_rfl, fun j t ht => ?_⟩
  rw [Tryd.params6] at ht
  have hm : t ∈ [49] := by simpa using Array.mem_of_getElem? ht
  have hall : ([49].all fun u => !Tryd.prog.wantsStandIn u) = true := by kernel_rfl
  exact (show Tryd.prog.wantsStandIn t = false by simpa using List.all_eq_true.1 hall t hm)
theorem proved : Rows.FnExactFormatExprCardSaid :=
  Claim7.holds_tied_plain_at .later [] _ _ _ _ said (fun _ h => by cases h) (by kernel_rfl) (fun _ h => by cases h) fnExactFormatExpr_row_tie rfl ⟨rfl, rfl⟩ (by kernel_rfl) rfl plain (by kernel_rfl)
end Go.Proofs.YtegckfmmoapncaaDoor.fnExactFormatExpr
