/- Disassemble answers as its model for every string, and returns memory of its own. No condition. -/
import Derived.Test.YtcflojdkaddemaaOpDisS
import Derived.Test.YtcflojdkaddemaaOpDisI
import Derived.Test.YtcflojdkaddemaaOpMark
import Derived.ProofKit
import Derived.OpenShut
import Derived.ShutString
import Derived.ChangeOld
import Derived.Below
import Derived.Carry
namespace Go.Proofs.Ytcflojdkaddemaa.fnExactDisassemble
open Go.ChangeShapes Go.WideShapes Go.ChangeAt Go.RowKit Go.Lib
open Go.ChangeMaps (open_string shut_string)

theorem dis_len (s : ByteArray) : (disL s.data.toList).length ≤ s.size := by
  have key : ∀ (n : Nat) (l : List UInt8), l.length ≤ n → (disL l).length ≤ l.length := by
    intro n
    induction n with
    | zero =>
      intro l h
      have : l = [] := List.length_eq_zero_iff.1 (by omega)
      subst this
      exact Nat.le_refl _
    | succ n ih =>
      intro l h
      cases hl : l with
      | nil => exact Nat.le_refl _
      | cons b r =>
        rw [← hl]
        cases hx : dec1 l with
        | none =>
          have : disZ l = none := disZ_bad l (by rw [hl]; simp) hx
          unfold disL
          rw [this]
          exact Nat.zero_le _
        | some y =>
          obtain ⟨x, k⟩ := y
          have hs := dec1_size _ _ _ hx
          have h2 := ih (l.drop k) (by rw [List.length_drop]; omega)
          rw [List.length_drop] at h2
          unfold disL at h2 ⊢
          rw [disZ_next _ _ _ hx]
          cases hz : disZ (l.drop k) with
          | none => exact Nat.zero_le _
          | some q =>
            rw [hz] at h2
            simp at h2 ⊢
            omega
  have := key s.size s.data.toList (by rw [list_len]; exact Nat.le_refl _)
  rwa [list_len] at this

set_option maxHeartbeats 1000000 in
theorem walk (s : ByteArray) (w : World) (hm : s.size ≤ maxLen) :
    Calls Try.prog 5 #[.string s] w fun e w' => e = .returned (.bool true) ∧ Below w.heap.size w w' := by
  by_cases hlong : 1048576 < s.size
  · have hd : decide (1048576 < (s.size : Int)) = true := decide_eq_true (by omega)
    unfold maxLen at hm
    go_enter Try.func5, Try.ntmps5
    go_wp2
    go_ret
    exact ⟨rfl, Below.refl _ _⟩
  have hd : decide (1048576 < (s.size : Int)) = false := decide_eq_false (by omega)
  have S := Lib.hid (fun W => s_dis s W (by omega))
  have I := Lib.hid (fun W => i_dis s W (by omega))
  have hln := dis_len s
  obtain ⟨L, hL⟩ : ∃ L, disL s.data.toList = L := ⟨_, rfl⟩
  obtain ⟨ok, hok⟩ : ∃ ok, disB s.data.toList = ok := ⟨_, rfl⟩
  rw [hL, hok] at S I
  rw [hL] at hln
  clear hL hok
  unfold maxLen at hm
  have hl20 : L.length ≤ 1048576 := by omega
  clear hln hlong
  go_enter Try.func5, Try.ntmps5
  go_wp2_with fail
  refine (S.out _).mono ?_
  rintro e w1 ⟨v0, rfl, O0, b1⟩
  obtain ⟨a0, c0, rfl⟩ := owns3_shape O0
  have R0 := Lib.hid (readP_of O0)
  have HB1 := Lib.hid b1
  have z1 := b1.size
  clear O0 b1
  go_wp2_with fail
  refine (I.out _).mono ?_
  rintro e w3 ⟨v1, rfl, O1, b3⟩
  obtain ⟨a1, c1, rfl⟩ := owns3_shape O1
  have HO1 := Lib.hid O1
  have R1 := Lib.hid (readP_of O1)
  have HB3 : Hid (Below w.heap.size w w3) := Lib.hid (HB1.out.trans (b3.mono z1))
  have HC3 : Hid (Below w1.heap.size w1 w3) := Lib.hid b3
  have R03 := Lib.hid (R0.out.below b3)
  have z3 := b3.size
  clear O1 b3
  go_wp2_with fail
  refine (l_eqOpS a1 a0 c1 c0 L _ R1.out R03.out hl20).mono ?_
  rintro e w5 ⟨rfl, b5⟩
  have HO5 := Lib.hid (owns3_below HO1.out b5)
  have z5 := b5.size
  have HB5 : Hid (Below w.heap.size w w5) := Lib.hid (HB3.out.trans (b5.mono (by omega)))
  have HC5 : Hid (Below w1.heap.size w1 w5) := Lib.hid (HC3.out.trans (b5.mono z3))
  clear b5
  cases ok
  all_goals
    go_wp2_with fail
    refine (l_markOpS a1 c1 L.length (opV L) 1 w1.heap.size _ HO5.out hl20 (by omega)).mono ?_
    rintro e w6 ⟨rfl, O6, g6⟩
    have HC6 : Hid (Below w1.heap.size w1 w6) := Lib.hid (HC5.out.grown g6 (by omega) (fun k hk => (HO5.out.lt k hk).1))
    have HB6 : Hid (Below w.heap.size w w6) := Lib.hid (HB1.out.trans (HC6.out.mono z1))
    have R6 : Hid (ReadP w6 a1 (mkOps 1 L.length)) := Lib.hid (by
      have h := O6
      rw [← mkOps_length 1 L.length] at h
      have h2 : w6.ownsRow w1.heap.size 28 2 (.slice a1 (mkOps 1 L.length).length c1) (mkOps 1 L.length).length (opV (mkOps 1 L.length)) := by rw [mkOps_length]; exact O6
      exact readP_of h2)
    have z6 := HC6.out.size
    clear O6 g6
    go_wp2_with fail
    refine (l_heldOpS a1 c1 L.length 1 _ R6.out hl20 (by omega)).mono ?_
    rintro e w7 ⟨rfl, b7⟩
    have R7 := Lib.hid (R6.out.below b7)
    have HB7 : Hid (Below w.heap.size w w7) := Lib.hid (HB6.out.trans (b7.mono (by omega)))
    have HC7 : Hid (Below w1.heap.size w1 w7) := Lib.hid (HC6.out.trans (b7.mono z6))
    have z7 := HC7.out.size
    clear b7
    go_wp2_with fail
    refine (I.out _).mono ?_
    rintro e w8 ⟨v2, rfl, O2, b8⟩
    obtain ⟨a2, c2, rfl⟩ := owns3_shape O2
    have R2 := Lib.hid (readP_of O2)
    have R8 := Lib.hid (R7.out.below b8)
    have HB8 : Hid (Below w.heap.size w w8) := Lib.hid (HB7.out.trans (b8.mono (by omega)))
    have HC8 : Hid (Below w1.heap.size w1 w8) := Lib.hid (HC7.out.trans (b8.mono z7))
    have R08 := Lib.hid (R0.out.below HC8.out)
    have z8 := HC8.out.size
    clear O2 b8
    go_wp2_with fail
    refine (l_eqOpS a2 a0 c2 c0 L _ R2.out R08.out hl20).mono ?_
    rintro e w10 ⟨rfl, b10⟩
    have R10 := Lib.hid (R8.out.below b10)
    have HB10 : Hid (Below w.heap.size w w10) := Lib.hid (HB8.out.trans (b10.mono (by omega)))
    have z10 := b10.size
    clear b10
    go_wp2_with fail
    refine (l_heldOpS a1 c1 L.length 1 _ R10.out hl20 (by omega)).mono ?_
    rintro e w11 ⟨rfl, b11⟩
    have HB11 : Hid (Below w.heap.size w w11) := Lib.hid (HB10.out.trans (b11.mono (by omega)))
    clear b11
    go_wp2
    go_ret
    exact ⟨rfl, HB11.out⟩

theorem own : ownKnob Try.prog.godebug = none := by kernel_rfl
theorem laidOut : laidOutB Try.prog = true := by kernel_rfl

set_option maxRecDepth 100000 in
theorem lifted (os : Os) (started : os.Started) (H : Type) (enc : TypeId × Value → H) :
    ReturnsInHanded {} Try.checked os 5 .any (Rows.fnExactDisassembleSpec.pre6 enc Try.prog Try.f5 Rows.fnExactDisassembleRow.domain false) (Rows.fnExactDisassembleSpec.post enc Try.prog Try.f5 false true false false) := by
  refine returnsInHanded_of_change (C := Try.checked) own started (by kernel_rfl) Try.func5
    (ChangeSpec.witness6 (enc := enc) (C := Try.checked) false ⟨#[], #[.string ByteArray.empty], []⟩ 8 (by kernel_rfl) (by kernel_rfl) (by kernel_rfl) (by kernel_rfl)) ?_
  intro W base args ds gs before hval0 hW hcnd _
  have hval : ∀ (j : Nat) t v, Try.f5.params[j]? = some t → args[j]? = some v → Value.okWide Try.prog W .any base t v := hval0
  have hW' := hW
  obtain ⟨p, q, hA0, hV, rfl, hfz, hnd⟩ := hW
  have hA : DataW.TrodAll enc Try.prog W 0 (fun _ => true) true Try.f5.params.toList args.toList ds p := hA0
  rw [Try.params5] at hA hval
  obtain ⟨v0, vs0, d0, ds0, p0, q0, hargs, rfl, rfl, h0, r0⟩ := trodAll_cons hA
  obtain ⟨rfl, rfl, rfl⟩ := trodAll_nil r0
  obtain rfl : args = #[v0] := by cases args; simp_all
  obtain ⟨rfl, rfl⟩ := trodVars_none hV
  obtain ⟨a0, rfl, rfl, rfl, w0⟩ := open_string Try.underlying9 (hval 0 9 v0 rfl rfl) h0
  clear hA0 hval0
  refine (walk a0 W w0).mono fun e W' ⟨he, bel⟩ => ?_
  subst he
  exact ⟨_, rfl, _, _, _, [], _, [], hW', trodAll_mk1 (shut_bool Try.underlying4 _), (trodAll_cons_mk (shut_string Try.underlying9 w0) trodAll_mk0), rfl, bel.frame _, fun h => by cases h⟩

theorem over : Rows.fnExactDisassembleRow.holds Try.pinned (OpenSpec.ofChange Rows.fnExactDisassembleSpec) :=
  OpenClaim.holds_of_wide 5 Try.f5 rfl rfl rfl rfl rfl rfl rfl ⟨rfl, rfl, rfl, rfl, rfl⟩ rfl rfl rfl rfl rfl (by kernel_rfl) Try.func5 (by kernel_rfl)
    (of_decide_eq_true (by kernel_rfl)) (by unfold Func.isWrapper; first | (rw [if_pos (by decide +kernel)]; kernel_rfl) | (rw [if_neg (by decide +kernel)]; exact ⟨rfl, rfl⟩))
    (fun os started H enc _ => lifted os started H enc)

theorem proved : Rows.FnExactDisassembleSaid := over
end Go.Proofs.Ytcflojdkaddemaa.fnExactDisassemble
