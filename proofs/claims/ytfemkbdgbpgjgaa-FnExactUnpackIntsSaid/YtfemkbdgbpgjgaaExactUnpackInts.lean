/- UnpackInts answers as its model for every text and number, and what it makes is its own. No condition. -/
import Derived.Test.YtfemkbdgbpgjgaaPackU
import Derived.Test.YtfemkbdgbpgjgaaPackV
import Derived.Test.YtfemkbdgbpgjgaaEqInts
import Derived.Test.YtfemkbdgbpgjgaaMarkInts
import Derived.Lib.SmallJoins
import Derived.ProofKit
import Derived.OpenShut
import Derived.ShutString
import Derived.ChangeOld
import Derived.Below
import Derived.Carry
namespace Go.Proofs.Ytfemkbdgbpgjgaa.fnExactUnpackInts
open Go.ChangeShapes Go.WideShapes Go.ChangeAt Go.RowKit Go.Lib Go.Proofs.Ytfemkbdgbpgjgaa
open Go.ChangeMaps (open_string shut_string)

theorem apartU {B B' T T' n n' s s' : Nat} {w w' : World} {v v' : Value} {xs xs' : List Value} (h : w.ownsRow B T s v n xs) (h' : w'.ownsRow B' T' s' v' n' xs') (hlt : w.heap.size ≤ B') : v.ownBlock = none ∨ v.ownBlock ≠ v'.ownBlock := by
  cases h0 : v.ownBlock with
  | none => exact .inl rfl
  | some x =>
    refine .inr fun e => ?_
    have p0 := (h.lt x h0).2
    have p1 := (h'.lt x e.symm).1
    omega
set_option maxRecDepth 100000 in
set_option maxHeartbeats 2000000 in
theorem walk (s : ByteArray) (a : Int) (w : World) (hm : s.size ≤ maxLen) (ha : (Lit.int .i64 a).wf = true) :
    Calls Try.prog 10 #[.string s, .int .i64 a] w fun e w' => e = .returned (.bool true) ∧ Below w.heap.size w w' := by
  have hm' := hm
  unfold maxLen at hm'
  by_cases h1 : 1048576 < s.size
  · clear ha
    go_enter Try.func10, Try.ntmps10
    go_wp2
    go_ret
    exact ⟨rfl, Below.refl _ _⟩
  have S := Lib.hid (fun W => s_unI s a W (by omega) ha)
  have I := Lib.hid (fun W => i_unI s a W (by omega) ha)
  have hl := (unZ_len s.data.toList a).1
  rw [list_len] at hl
  obtain ⟨r, hr⟩ : ∃ r, unZ s.data.toList a = r := ⟨_, rfl⟩
  rw [hr] at S I hl
  obtain ⟨R, z, b⟩ := r
  dsimp only at hl
  have hR : R.length ≤ 1048576 := by omega
  have hbb : (b != b) = false := by cases b <;> rfl
  clear hr ha hl
  go_enter Try.func10, Try.ntmps10
  go_wp2_with fail
  refine (S.out _).mono ?_
  rintro e w1 ⟨v0, rfl, O0, b1⟩
  dsimp only at O0
  obtain ⟨p0, q0, rfl⟩ := owns_shape O0
  have O01 := Lib.hid O0
  have HB1 := Lib.hid b1
  have z1 := b1.size
  clear b1 O0
  go_wp2_with fail
  refine (I.out _).mono ?_
  rintro e w2 ⟨v1, rfl, O1, b2⟩
  dsimp only at O1
  obtain ⟨p1, q1, rfl⟩ := owns_shape O1
  have O12 := Lib.hid O1
  have O02 := Lib.hid (owns_below O01.out b2)
  have HB2 := Lib.hid (HB1.out.trans (b2.mono z1))
  have z2 := HB2.out.size
  have y2 := b2.size
  have N01 := Lib.hid (apartU O01.out O12.out (Nat.le_refl _))
  have P1 : Hid (∀ g, (Value.slice p1 R.length q1).ownBlock = some g → w1.heap.size ≤ g) := Lib.hid (fun g hg => (O12.out.lt g hg).1)
  clear b2 O1
  go_wp2_with fail
  refine (l_eqInts p1 p0 q1 q0 R _ (readI_of O12.out) (readI_of O02.out) (by omega)).mono ?_
  rintro e w3 ⟨rfl, b3⟩
  have O13 := Lib.hid (owns_below O12.out b3)
  have O03 := Lib.hid (owns_below O02.out b3)
  have HB3 := Lib.hid (HB2.out.trans (b3.mono z2))
  have z3 := b3.size
  clear b3
  go_wp2_with fail
  refine (l_markInts p1 q1 R 1 w1.heap.size _ O13.out (by omega) (by omega) (by omega)).mono ?_
  rintro e w4 ⟨rfl, O14', g4⟩
  have O14 := Lib.hid O14'
  have O04 := Lib.hid (O03.out.kept g4 N01.out)
  have HB4 := Lib.hid (HB3.out.grown g4 (by omega) (fun j hj => by have := P1.out j hj; omega))
  have z4 := HB4.out.size
  have RD4 : Hid (ReadI w4 p1 (mki 1 R.length)) := Lib.hid (readI_of (l := mki 1 R.length) (by rw [mki_length]; exact O14.out))
  clear g4 O14'
  go_wp2_with fail
  refine (l_heldInts p1 q1 R.length 1 _ RD4.out (by omega) (by omega)).mono ?_
  rintro e w5 ⟨rfl, rfl⟩
  have hd : decide (((1 + R.length : Nat) : Int) < 0) = false := by simp; omega
  go_wp2_with fail
  refine (I.out _).mono ?_
  rintro e w6 ⟨v2, rfl, O2, b6⟩
  dsimp only at O2
  obtain ⟨p2, q2, rfl⟩ := owns_shape O2
  have R6 := Lib.hid (readI_of O2)
  have O06 := Lib.hid (owns_below O04.out b6)
  have RD6 := Lib.hid (RD4.out.below b6)
  have HB6 := Lib.hid (HB4.out.trans (b6.mono z4))
  have z6 := HB6.out.size
  clear b6 O2
  go_wp2_with fail
  refine (l_eqInts p2 p0 q2 q0 R _ R6.out (readI_of O06.out) (by omega)).mono ?_
  rintro e w7 ⟨rfl, b7⟩
  have RD7 := Lib.hid (RD6.out.below b7)
  have HB7 := Lib.hid (HB6.out.trans (b7.mono z6))
  clear b7
  go_wp2_with fail
  refine (l_heldInts p1 q1 R.length 1 _ RD7.out (by omega) (by omega)).mono ?_
  rintro e w8 ⟨rfl, rfl⟩
  go_wp2
  go_ret
  exact ⟨rfl, HB7.out⟩

theorem own : ownKnob Try.prog.godebug = none := by kernel_rfl
theorem laidOut : laidOutB Try.prog = true := by kernel_rfl

set_option maxRecDepth 100000 in
theorem lifted (os : Os) (started : os.Started) (H : Type) (enc : TypeId × Value → H) :
    ReturnsInHanded {} Try.checked os 10 .any (Rows.fnExactUnpackIntsSpec.pre6 enc Try.prog Try.f10 Rows.fnExactUnpackIntsRow.domain false) (Rows.fnExactUnpackIntsSpec.post enc Try.prog Try.f10 false true false false) := by
  refine returnsInHanded_of_change (C := Try.checked) own started (by kernel_rfl) Try.func10
    (ChangeSpec.witness6 (enc := enc) (C := Try.checked) false ⟨#[], #[.string ByteArray.empty, .int .i64 0], []⟩ 8 (by kernel_rfl) (by kernel_rfl) (by kernel_rfl) (by kernel_rfl)) ?_
  intro W base args ds gs before hval0 hW hcnd _
  have hval : ∀ (j : Nat) t v, Try.f10.params[j]? = some t → args[j]? = some v → Value.okWide Try.prog W .any base t v := hval0
  have hW' := hW
  obtain ⟨p, q, hA0, hV, rfl, hfz, hnd⟩ := hW
  have hA : DataW.TrodAll enc Try.prog W 0 (fun _ => true) true Try.f10.params.toList args.toList ds p := hA0
  rw [Try.params10] at hA hval
  obtain ⟨v0, vs0, d0, ds0, p0, q0, hargs, rfl, rfl, h0, r0⟩ := trodAll_cons hA
  obtain ⟨v1, vs1, d1, ds1, p1, q1, rfl, rfl, rfl, h1, r1⟩ := trodAll_cons r0
  obtain ⟨rfl, rfl, rfl⟩ := trodAll_nil r1
  obtain rfl : args = #[v0, v1] := by cases args; simp_all
  obtain ⟨rfl, rfl⟩ := trodVars_none hV
  obtain ⟨a0, rfl, rfl, rfl, w0⟩ := open_string Try.underlying9 (hval 0 9 v0 rfl rfl) h0
  obtain ⟨a1, rfl, rfl, rfl, w1⟩ := open_int Try.underlying3 (hval 1 3 v1 rfl rfl) h1
  clear hA0 hval0
  refine (walk a0 a1 W w0 w1).mono fun e W' ⟨he, bel⟩ => ?_
  subst he
  exact ⟨_, rfl, _, _, _, [], _, [], hW', trodAll_mk1 (shut_bool Try.underlying4 _), (trodAll_cons_mk (shut_string Try.underlying9 w0) (trodAll_cons_mk (shut_int Try.underlying3 w1) trodAll_mk0)), rfl, bel.frame _, fun h => by cases h⟩

theorem over : Rows.fnExactUnpackIntsRow.holds Try.pinned (OpenSpec.ofChange Rows.fnExactUnpackIntsSpec) :=
  OpenClaim.holds_of_wide 10 Try.f10 rfl rfl rfl rfl rfl rfl rfl ⟨rfl, rfl, rfl, rfl, rfl⟩ rfl rfl rfl rfl rfl (by kernel_rfl) Try.func10 (by kernel_rfl)
    (of_decide_eq_true (by kernel_rfl)) (by unfold Func.isWrapper; first | (rw [if_pos (by decide +kernel)]; kernel_rfl) | (rw [if_neg (by decide +kernel)]; exact ⟨rfl, rfl⟩))
    (fun os started H enc _ => lifted os started H enc)

theorem proved : Rows.FnExactUnpackIntsSaid := over
end Go.Proofs.Ytfemkbdgbpgjgaa.fnExactUnpackInts
