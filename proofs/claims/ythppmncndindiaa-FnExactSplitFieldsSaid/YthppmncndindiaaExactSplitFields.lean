/- SplitFields answers as its model for every line; what it returns is memory of its own. No condition. -/
import Derived.Test.YthppmncndindiaaFieldsSpec
import Derived.Test.YthppmncndindiaaFieldsImpl
import Derived.Test.YthppmncndindiaaMarkText
import Derived.ProofKit
import Derived.OpenShut
import Derived.ShutString
import Derived.ChangeOld
import Derived.Below
namespace Go.Proofs.Ythppmncndindiaa.fnExactSplitFields
open Go.ChangeShapes Go.WideShapes Go.ChangeAt Go.RowKit
open Go.ChangeMaps (open_string shut_string)

theorem spec_is (s : ByteArray) (w : World) (hm : s.size ≤ maxLen) : Calls Try.prog 15 #[.string s] w (Strs 9 w.heap.size (spR s).1 (spR s).2 w) := by
  by_cases h : s.size ≤ 600
  · exact s_split s w h
  · exact s_split_long s w (by omega) hm
theorem impl_is (s : ByteArray) (w : World) (hm : s.size ≤ maxLen) : Calls Try.prog 16 #[.string s] w (Strs 9 w.heap.size (spR s).1 (spR s).2 w) := by
  by_cases h : s.size ≤ 600
  · exact i_split s w h
  · exact i_split_long s w (by omega) hm

set_option maxHeartbeats 1000000 in
theorem walk (s : ByteArray) (w : World) (hm : s.size ≤ maxLen) :
    Calls Try.prog 6 #[.string s] w fun e w' => e = .returned (.bool true) ∧ Below w.heap.size w w' := by
  have hm' := hm
  unfold maxLen at hm'
  by_cases h1 : 1048576 < s.size
  · go_enter Try.func6, Try.ntmps6
    go_wp2
    go_ret
    exact ⟨rfl, Below.refl _ _⟩
  · have S := Lib.hid (fun W => spec_is s W hm)
    have I := Lib.hid (fun W => impl_is s W hm)
    have hlen := spR_len s
    obtain ⟨l, hl⟩ : ∃ l, (spR s).1 = l := ⟨_, rfl⟩
    obtain ⟨ok, hok⟩ : ∃ ok, (spR s).2 = ok := ⟨_, rfl⟩
    rw [hl, hok] at S I
    rw [hl] at hlen
    clear hl hok hm
    go_enter Try.func6, Try.ntmps6
    go_wp2_with fail
    refine (S.out _).mono ?_
    rintro e w1 ⟨v0, rfl, O0, B0⟩
    obtain ⟨a0, c0, rfl⟩ := owns_shape O0
    have O0 := Lib.hid O0
    have B0 := Lib.hid B0
    go_wp2_with fail
    refine (I.out _).mono ?_
    rintro e w2 ⟨v1, rfl, O1, B1⟩
    obtain ⟨a1, c1, rfl⟩ := owns_shape O1
    have O1 := Lib.hid O1
    have O02 := Lib.hid (owns_below O0.out B1)
    have B2 := Lib.hid (B0.out.trans (B1.mono B0.out.size))
    have hs1 := B0.out.size
    have hs2 := B1.size
    clear B1
    go_wp2_with fail
    refine (l_eqStrs a1 a0 c1 c0 l _ (reads_of O1.out) (reads_of O02.out) (by omega)).mono ?_
    rintro e w3 ⟨rfl, E3⟩
    have O03 := Lib.hid (owns_below O02.out E3)
    have O13 := Lib.hid (owns_below O1.out E3)
    have B3 := Lib.hid (B2.out.trans (E3.mono B2.out.size))
    have hs3 := E3.size
    clear E3
    cases ok
    all_goals
      go_wp2_with fail
      refine (l_markStrs a1 c1 l 1 w1.heap.size _ O13.out (by omega) (by omega) (by omega) (by omega)).mono ?_
      rintro e w4 ⟨rfl, O14, G4⟩
      have ne0 : (Value.slice a0 l.length c0).ownBlock = none ∨ (Value.slice a0 l.length c0).ownBlock ≠ (Value.slice a1 l.length c1).ownBlock := by
        cases h0 : (Value.slice a0 l.length c0).ownBlock with
        | none => exact .inl rfl
        | some x =>
          refine .inr fun e => ?_
          have p0 := (O0.out.lt x h0).2
          have p1 := (O1.out.lt x e.symm).1
          omega
      have O04 := Lib.hid (O03.out.kept G4 ne0)
      have B4 := Lib.hid (B3.out.grown G4 (by omega) (fun j hj => by have := (O1.out.lt j hj).1; omega))
      have O14 := Lib.hid O14
      have hs4 := G4.size
      clear G4 ne0
      go_wp2_with fail
      refine (l_heldStrs a1 c1 l.length 1 _ (reads_of (l := mks 1 l.length) (by rw [mks_length]; exact O14.out)) (by omega) (by omega) (by omega)).mono ?_
      rintro e w5 ⟨rfl, E5⟩
      have O05 := Lib.hid (owns_below O04.out E5)
      have O15 := Lib.hid (owns_below O14.out E5)
      have B5 := Lib.hid (B4.out.trans (E5.mono B4.out.size))
      have hs5 := E5.size
      clear E5
      go_wp2_with fail
      refine (I.out _).mono ?_
      rintro e w6 ⟨v2, rfl, O2, E6⟩
      obtain ⟨a2, c2, rfl⟩ := owns_shape O2
      have O2 := Lib.hid O2
      have O06 := Lib.hid (owns_below O05.out E6)
      have O16 := Lib.hid (owns_below O15.out E6)
      have B6 := Lib.hid (B5.out.trans (E6.mono B5.out.size))
      have hs6 := E6.size
      clear E6
      go_wp2_with fail
      refine (l_eqStrs a2 a0 c2 c0 l _ (reads_of O2.out) (reads_of O06.out) (by omega)).mono ?_
      rintro e w7 ⟨rfl, E7⟩
      have O17 := Lib.hid (owns_below O16.out E7)
      have B7 := Lib.hid (B6.out.trans (E7.mono B6.out.size))
      clear E7
      go_wp2_with fail
      refine (l_heldStrs a1 c1 l.length 1 _ (reads_of (l := mks 1 l.length) (by rw [mks_length]; exact O17.out)) (by omega) (by omega) (by omega)).mono ?_
      rintro e w8 ⟨rfl, E8⟩
      have B8 := Lib.hid (B7.out.trans (E8.mono B7.out.size))
      clear E8
      go_wp2
      go_ret
      exact ⟨rfl, B8.out⟩

theorem own : ownKnob Try.prog.godebug = none := by kernel_rfl
theorem laidOut : laidOutB Try.prog = true := by kernel_rfl

set_option maxRecDepth 100000 in
theorem lifted (os : Os) (started : os.Started) (H : Type) (enc : TypeId × Value → H) :
    ReturnsInHanded {} Try.checked os 6 .any (Rows.fnExactSplitFieldsSpec.pre6 enc Try.prog Try.f6 Rows.fnExactSplitFieldsRow.domain false) (Rows.fnExactSplitFieldsSpec.post enc Try.prog Try.f6 false true false false) := by
  refine returnsInHanded_of_change (C := Try.checked) own started (by kernel_rfl) Try.func6
    (ChangeSpec.witness6 (enc := enc) (C := Try.checked) false ⟨#[], #[.string ByteArray.empty], []⟩ 8 (by kernel_rfl) (by kernel_rfl) (by kernel_rfl) (by kernel_rfl)) ?_
  intro W base args ds gs before hval0 hW hcnd _
  have hval : ∀ (j : Nat) t v, Try.f6.params[j]? = some t → args[j]? = some v → Value.okWide Try.prog W .any base t v := hval0
  have hW' := hW
  obtain ⟨p, q, hA0, hV, rfl, hfz, hnd⟩ := hW
  have hA : DataW.TrodAll enc Try.prog W 0 (fun _ => true) true Try.f6.params.toList args.toList ds p := hA0
  rw [Try.params6] at hA hval
  obtain ⟨v0, vs0, d0, ds0, p0, q0, hargs, rfl, rfl, h0, r0⟩ := trodAll_cons hA
  obtain ⟨rfl, rfl, rfl⟩ := trodAll_nil r0
  obtain rfl : args = #[v0] := by cases args; simp_all
  obtain ⟨rfl, rfl⟩ := trodVars_none hV
  obtain ⟨a0, rfl, rfl, rfl, w0⟩ := open_string Try.underlying9 (hval 0 9 v0 rfl rfl) h0
  clear hA0 hval0
  refine (walk a0 W w0).mono fun e W' ⟨he, bel⟩ => ?_
  subst he
  exact ⟨_, rfl, _, _, _, [], _, [], hW', trodAll_mk1 (shut_bool Try.underlying4 _), (trodAll_cons_mk (shut_string Try.underlying9 w0) trodAll_mk0), rfl, bel.frame _, fun h => by cases h⟩

theorem over : Rows.fnExactSplitFieldsRow.holds Try.pinned (OpenSpec.ofChange Rows.fnExactSplitFieldsSpec) :=
  OpenClaim.holds_of_wide 6 Try.f6 rfl rfl rfl rfl rfl rfl rfl ⟨rfl, rfl, rfl, rfl, rfl⟩ rfl rfl rfl rfl rfl (by kernel_rfl) Try.func6 (by kernel_rfl)
    (of_decide_eq_true (by kernel_rfl)) (by unfold Func.isWrapper; first | (rw [if_pos (by decide +kernel)]; kernel_rfl) | (rw [if_neg (by decide +kernel)]; exact ⟨rfl, rfl⟩))
    (fun os started H enc _ => lifted os started H enc)

theorem proved : Rows.FnExactSplitFieldsSaid := over
end Go.Proofs.Ythppmncndindiaa.fnExactSplitFields
