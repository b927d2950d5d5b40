/- DecodeRules answers as its model for every text, and what it makes is its own. No condition. -/
import Derived.Test.YtfemkbdgbpgjgaaDrI
import Derived.Test.YtfemkbdgbpgjgaaDrS
import Derived.Test.YtfemkbdgbpgjgaaRuEq
import Derived.Test.YtfemkbdgbpgjgaaRuMk
import Derived.Lib.SmallJoins
import Derived.ProofKit
import Derived.OpenShut
import Derived.ShutString
import Derived.ChangeOld
import Derived.Below
import Derived.Carry
namespace Go.Proofs.Ytfemkbdgbpgjgaa.fnExactDecodeRules
open Go.ChangeShapes Go.WideShapes Go.ChangeAt Go.RowKit Go.Lib Go.Proofs.Ytfemkbdgbpgjgaa
open Go.ChangeMaps (open_string shut_string)

theorem apartD {B B' T T' n n' s s' : Nat} {w w' : World} {v v' : Value} {xs xs' : List Value} (h : w.ownsRow B T s v n xs) (h' : w'.ownsRow B' T' s' v' n' xs') (hlt : w.heap.size ≤ B') : v.ownBlock = none ∨ v.ownBlock ≠ v'.ownBlock := by
  cases h0 : v.ownBlock with
  | none => exact .inl rfl
  | some x =>
    refine .inr fun e => ?_
    have p0 := (h.lt x h0).2
    have p1 := (h'.lt x e.symm).1
    omega
set_option maxRecDepth 100000 in
set_option maxHeartbeats 2000000 in
theorem walk (s : ByteArray) (w : World) (hm : s.size ≤ maxLen) :
    Calls Try.prog 14 #[.string s] w fun e w' => e = .returned (.bool true) ∧ Below w.heap.size w w' := by
  have hm' := hm
  unfold maxLen at hm'
  by_cases h1 : 1048576 < s.size
  · go_enter Try.func14, Try.ntmps14
    go_wp2
    go_ret
    exact ⟨rfl, Below.refl _ _⟩
  have S := Lib.hid (fun W => s_decR s W (by omega))
  have I := Lib.hid (fun W => i_decR s W (by omega))
  have hl := drZ_len s.data.toList
  rw [list_len] at hl
  obtain ⟨r, hr⟩ : ∃ r, drZ s.data.toList = r := ⟨_, rfl⟩
  rw [hr] at S I hl
  obtain ⟨D, b⟩ := r
  dsimp only at hl
  have hR : D.length ≤ 1048576 := by omega
  have hbb : (b != b) = false := by cases b <;> rfl
  clear hr hl
  go_enter Try.func14, Try.ntmps14
  go_wp2_with fail
  refine (S.out _).mono ?_
  rintro e w1 ⟨v0, rfl, O0, b1⟩
  dsimp only at O0
  obtain ⟨p0, q0, rfl⟩ := owns3_shape O0
  have O01 := Lib.hid O0
  have HB1 := Lib.hid b1
  have z1 := b1.size
  clear b1 O0
  go_wp2_with fail
  refine (I.out _).mono ?_
  rintro e w2 ⟨v1, rfl, O1, b2⟩
  dsimp only at O1
  obtain ⟨p1, q1, rfl⟩ := owns3_shape O1
  have O12 := Lib.hid O1
  have O02 := Lib.hid (owns3_below O01.out b2)
  have HB2 := Lib.hid (HB1.out.trans (b2.mono z1))
  have z2 := HB2.out.size
  have y2 := b2.size
  have N01 := Lib.hid (apartD O01.out O12.out (Nat.le_refl _))
  have P1 : Hid (∀ g, (Value.slice p1 D.length q1).ownBlock = some g → w1.heap.size ≤ g) := Lib.hid (fun g hg => (O12.out.lt g hg).1)
  clear b2 O1
  go_wp2_with fail
  refine (l_eqRuleS p1 p0 q1 q0 D _ (readRu_of O12.out) (readRu_of O02.out) (by omega)).mono ?_
  rintro e w3 ⟨rfl, b3⟩
  have O13 := Lib.hid (owns3_below O12.out b3)
  have O03 := Lib.hid (owns3_below O02.out b3)
  have HB3 := Lib.hid (HB2.out.trans (b3.mono z2))
  have z3 := b3.size
  clear b3
  have MR := Lib.hid (l_markRuleS p1 q1 D.length (rusV D) 1 w1.heap.size w3 O13.out (by omega) (by omega))
  rw [show ((1 : Nat) : Int) = 1 from rfl] at MR
  go_wp2_with fail
  refine MR.out.mono ?_
  rintro e w4 ⟨rfl, O14', g4⟩
  have O04 := Lib.hid (O03.out.kept g4 N01.out)
  have HB4 := Lib.hid (HB3.out.grown g4 (by omega) (fun j hj => by have := P1.out j hj; omega))
  have z4 := HB4.out.size
  have RD4 : Hid (ReadRu w4 p1 (mkRu 1 D.length)) := Lib.hid (readRu_of (l := mkRu 1 D.length) (by rw [mkRu_length]; exact O14'))
  have HH := Lib.hid (fun (W : World) (hb : Below w4.heap.size w4 W) => l_heldRuleS p1 q1 D.length 1 W (RD4.out.below hb) (by omega) (by omega))
  rw [show ((1 : Nat) : Int) = 1 from rfl] at HH
  obtain ⟨Q, hQ⟩ : ∃ Q, 1 + 4 * D.length = Q := ⟨_, rfl⟩
  rw [hQ] at HH ⊢
  clear hQ MR g4 O14'
  have hdQ : decide ((Q : Int) < 0) = false := by simp
  go_wp2_with fail
  refine (HH.out _ (Below.refl _ _)).mono ?_
  rintro e w5 ⟨rfl, b5⟩
  have D5 := Lib.hid b5
  have HB5 := Lib.hid (HB4.out.trans (b5.mono z4))
  have z5 := HB5.out.size
  clear b5
  go_wp2_with fail
  refine (I.out _).mono ?_
  rintro e w6 ⟨v2, rfl, O2, b6⟩
  dsimp only at O2
  obtain ⟨p2, q2, rfl⟩ := owns3_shape O2
  have R6 := Lib.hid (readRu_of O2)
  have D6 : Hid (Below w4.heap.size w4 w6) := Lib.hid (D5.out.trans (b6.mono D5.out.size))
  have O06 := Lib.hid (owns3_below O04.out D6.out)
  have HB6 := Lib.hid (HB5.out.trans (b6.mono z5))
  have z6 := HB6.out.size
  clear b6 O2
  go_wp2_with fail
  refine (l_eqRuleS p2 p0 q2 q0 D _ R6.out (readRu_of O06.out) (by omega)).mono ?_
  rintro e w7 ⟨rfl, b7⟩
  have D7 : Hid (Below w4.heap.size w4 w7) := Lib.hid (D6.out.trans (b7.mono D6.out.size))
  have HB7 := Lib.hid (HB6.out.trans (b7.mono z6))
  have z7 := HB7.out.size
  clear b7
  go_wp2_with fail
  refine (HH.out _ D7.out).mono ?_
  rintro e w8 ⟨rfl, b8⟩
  have HB8 := Lib.hid (HB7.out.trans (b8.mono z7))
  clear b8
  go_wp2
  go_ret
  exact ⟨rfl, HB8.out⟩

theorem own : ownKnob Try.prog.godebug = none := by kernel_rfl
theorem laidOut : laidOutB Try.prog = true := by kernel_rfl

set_option maxRecDepth 100000 in
theorem lifted (os : Os) (started : os.Started) (H : Type) (enc : TypeId × Value → H) :
    ReturnsInHanded {} Try.checked os 14 .any (Rows.fnExactDecodeRulesSpec.pre6 enc Try.prog Try.f14 Rows.fnExactDecodeRulesRow.domain false) (Rows.fnExactDecodeRulesSpec.post enc Try.prog Try.f14 false true false false) := by
  refine returnsInHanded_of_change (C := Try.checked) own started (by kernel_rfl) Try.func14
    (ChangeSpec.witness6 (enc := enc) (C := Try.checked) false ⟨#[], #[.string ByteArray.empty], []⟩ 8 (by kernel_rfl) (by kernel_rfl) (by kernel_rfl) (by kernel_rfl)) ?_
  intro W base args ds gs before hval0 hW hcnd _
  have hval : ∀ (j : Nat) t v, Try.f14.params[j]? = some t → args[j]? = some v → Value.okWide Try.prog W .any base t v := hval0
  have hW' := hW
  obtain ⟨p, q, hA0, hV, rfl, hfz, hnd⟩ := hW
  have hA : DataW.TrodAll enc Try.prog W 0 (fun _ => true) true Try.f14.params.toList args.toList ds p := hA0
  rw [Try.params14] at hA hval
  obtain ⟨v0, vs0, d0, ds0, p0, q0, hargs, rfl, rfl, h0, r0⟩ := trodAll_cons hA
  obtain ⟨rfl, rfl, rfl⟩ := trodAll_nil r0
  obtain rfl : args = #[v0] := by cases args; simp_all
  obtain ⟨rfl, rfl⟩ := trodVars_none hV
  obtain ⟨a0, rfl, rfl, rfl, w0⟩ := open_string Try.underlying9 (hval 0 9 v0 rfl rfl) h0
  clear hA0 hval0
  refine (walk a0 W w0).mono fun e W' ⟨he, bel⟩ => ?_
  subst he
  exact ⟨_, rfl, _, _, _, [], _, [], hW', trodAll_mk1 (shut_bool Try.underlying4 _), (trodAll_cons_mk (shut_string Try.underlying9 w0) trodAll_mk0), rfl, bel.frame _, fun h => by cases h⟩

theorem over : Rows.fnExactDecodeRulesRow.holds Try.pinned (OpenSpec.ofChange Rows.fnExactDecodeRulesSpec) :=
  OpenClaim.holds_of_wide 14 Try.f14 rfl rfl rfl rfl rfl rfl rfl ⟨rfl, rfl, rfl, rfl, rfl⟩ rfl rfl rfl rfl rfl (by kernel_rfl) Try.func14 (by kernel_rfl)
    (of_decide_eq_true (by kernel_rfl)) (by unfold Func.isWrapper; first | (rw [if_pos (by decide +kernel)]; kernel_rfl) | (rw [if_neg (by decide +kernel)]; exact ⟨rfl, rfl⟩))
    (fun os started H enc _ => lifted os started H enc)

theorem proved : Rows.FnExactDecodeRulesSaid := over
end Go.Proofs.Ytfemkbdgbpgjgaa.fnExactDecodeRules
