/- The law FnClamped holds for every row of bytes. No condition. -/
import Derived.Test.YthppmncndindiaaDrawNum
import Derived.ProofKit
import Derived.OpenShut
import Derived.ShutString
import Derived.ChangeOld
import Derived.Below
namespace Go.Proofs.Ythppmncndindiaa.fnClamped
open Go.ChangeShapes Go.WideShapes Go.ChangeAt Go.RowKit
open Go.ChangeMaps (open_string shut_string)

/-- Three numbers were drawn. -/
def Three (w : World) (e : Ending) (w' : World) : Prop :=
  ∃ n a b : Int, e = .returned (.tuple #[.int .i64 n, .int .i64 a, .int .i64 b]) ∧ (-9223372036854775808 ≤ n ∧ n ≤ 9223372036854775807) ∧ (-9223372036854775808 ≤ a ∧ a ≤ 9223372036854775807) ∧ (-9223372036854775808 ≤ b ∧ b ≤ 9223372036854775807) ∧ Below w.heap.size w w'

set_option maxHeartbeats 400000 in
theorem draw (a : Option Addr) (len cap : Nat) (z : List Int) (w : World) (H : IsRow .u8 w a len cap z) (hl : len ≤ 1048576) :
    Calls Try.prog 9 #[.slice a len cap] w (Three w) := by
  have HC := Lib.hid H
  clear H
  go_enter Try.func9, Try.ntmps9
  go_wp2_with fail
  refine (d_new a len cap z _ HC.out hl).mono ?_
  rintro e w1 ⟨c, rfl, hc0, hc1, H1, B1⟩
  have K1 := Lib.hid H1; have L1 := Lib.hid B1
  clear H1 B1
  go_wp2_with fail
  refine (d_once c a len cap z 4 _ K1.out (by omega) (by omega)).mono ?_
  rintro e w2 ⟨t, rfl, H2, G2⟩
  have K2 := Lib.hid H2; have L2 := Lib.hid G2
  clear H2 G2
  have fin : ∀ w', w2.grownBy w' (some c) → Below w.heap.size w w' := fun w' hg =>
    (L1.out.grown L2.out L1.out.size (fun k hk => by injection hk with hk; omega)).grown hg (Nat.le_trans L1.out.size L2.out.size) (fun k hk => by injection hk with hk; omega)
  have FIN := Lib.hid fin
  clear fin
  cases t
  · go_wp2_with fail
    refine (d_below c a len cap z 40 _ K2.out (by omega) (by omega)).mono ?_
    rintro e w3 ⟨x, x0, x1, rfl, H3, G3⟩
    have K3 := Lib.hid H3; have L3 := Lib.hid G3
    clear H3 G3
    go_wp2_with fail
    refine (d_below c a len cap z 80 _ K3.out (by omega) (by omega)).mono ?_
    rintro e w4 ⟨y, y0, y1, rfl, H4, G4⟩
    have K4 := Lib.hid H4; have L4 := Lib.hid G4
    clear H4 G4
    go_wp2_with fail
    refine (d_below c a len cap z 30 _ K4.out (by omega) (by omega)).mono ?_
    rintro e w5 ⟨u, u0, u1, rfl, H5, G5⟩
    have L5 := Lib.hid G5
    clear H5 G5
    go_wp2
    go_ret3
    exact ⟨_, _, _, rfl, by omega, by omega, by omega, FIN.out _ ((L3.out.trans L4.out).trans L5.out)⟩
  · go_wp2_with fail
    refine (d_number c a len cap z _ K2.out).mono ?_
    rintro e w3 ⟨x, x0, x1, rfl, H3, G3⟩
    have K3 := Lib.hid H3; have L3 := Lib.hid G3
    clear H3 G3
    go_wp2_with fail
    refine (d_number c a len cap z _ K3.out).mono ?_
    rintro e w4 ⟨y, y0, y1, rfl, H4, G4⟩
    have K4 := Lib.hid H4; have L4 := Lib.hid G4
    clear H4 G4
    go_wp2_with fail
    refine (d_number c a len cap z _ K4.out).mono ?_
    rintro e w5 ⟨u, u0, u1, rfl, H5, G5⟩
    have L5 := Lib.hid G5
    clear H5 G5
    go_wp2
    go_ret3
    exact ⟨_, _, _, rfl, by omega, by omega, by omega, FIN.out _ ((L3.out.trans L4.out).trans L5.out)⟩

def clampI (n a b : Int) : Int := if b < a ∨ n < a then a else if b < n then b else n

theorem clamp_is (n a b : Int) (w : World) : Calls Try.prog 10 #[.int .i64 n, .int .i64 a, .int .i64 b] w fun e w' => e = .returned (.int .i64 (clampI n a b)) ∧ w = w' := by
  go_enter Try.func10, Try.ntmps10
  go_wp2
  all_goals go_ret
  all_goals exact ⟨ret_int (by unfold clampI; omega), rfl⟩

theorem big_no (a : Option Addr) (len cap : Nat) (w : World) (hl : len ≤ 1048576) : Calls Try.prog 8 #[.slice a len cap] w fun e w' => e = .returned (.bool false) ∧ w = w' := by
  have h : decide ((1048576 : Int) < (len : Int)) = false := by simp; omega
  go_enter Try.func8, Try.ntmps8
  go_wp2
  go_ret
  exact ⟨rfl, rfl⟩
theorem big_yes (a : Option Addr) (len cap : Nat) (w : World) (hl : 1048576 < len) (hm : len ≤ 9223372036854775807) : Calls Try.prog 8 #[.slice a len cap] w fun e w' => e = .returned (.bool true) ∧ w = w' := by
  have h : decide ((1048576 : Int) < (len : Int)) = true := by simp; omega
  go_enter Try.func8, Try.ntmps8
  go_wp2
  go_ret
  exact ⟨rfl, rfl⟩

theorem walk (a0 : Option Addr) (len0 cap0 : Nat) (z0 : List Int) (w : World) (w0 : IsRow .u8 w a0 len0 cap0 z0) :
    Calls Try.prog 3 #[.slice a0 len0 cap0] w fun e w' => e = .returned (.bool true) ∧ Below w.heap.size w w' := by
  have HC := Lib.hid w0
  have hlen : len0 ≤ 9223372036854775807 := by
    rcases w0 with ⟨_, rfl, _, _⟩ | ⟨x, _, h1, h2, _⟩
    · omega
    · unfold maxLen at h2; omega
  clear w0
  by_cases hb : 1048576 < len0
  · go_enter Try.func3, Try.ntmps3
    go_wp2_with fail
    refine (big_yes a0 len0 cap0 _ hb hlen).mono ?_
    rintro e w' ⟨rfl, rfl⟩
    go_wp2
    go_ret
    exact ⟨rfl, Below.refl _ _⟩
  · go_enter Try.func3, Try.ntmps3
    go_wp2_with fail
    refine (big_no a0 len0 cap0 _ (by omega)).mono ?_
    rintro e w' ⟨rfl, rfl⟩
    go_wp2_with fail
    refine (draw a0 len0 cap0 z0 _ HC.out (by omega)).mono ?_
    rintro e w1 ⟨n, a, b, rfl, hn, ha, hbb, B1⟩
    have L1 := Lib.hid B1
    clear B1
    go_wp2_with fail
    refine (clamp_is n a b _).mono ?_
    rintro e w' ⟨rfl, rfl⟩
    have h75 : clampI 7 3 5 = 5 := by decide
    have H75 := Lib.hid h75
    clear h75
    by_cases c1 : b < a
    · have hx : clampI n a b = a := by unfold clampI; omega
      rw [hx]
      clear hx
      go_wp2_with fail
      refine (clamp_is 7 3 5 _).mono ?_
      rintro e w' ⟨rfl, rfl⟩
      rw [H75.out]
      go_wp2
      go_ret
      exact ⟨rfl, L1.out⟩
    · have fin : ∀ x : Int, clampI n a b = x → clampI x a b = x ∧ a ≤ x ∧ x ≤ b ∧ (n < a ∨ b < n ∨ x = n) := by
        intro x hx; unfold clampI at hx ⊢; omega
      obtain ⟨x, hx⟩ : ∃ x, clampI n a b = x := ⟨_, rfl⟩
      obtain ⟨f1, f2, f3, f4⟩ := fin x hx
      rw [hx]
      have F1 := Lib.hid f1
      clear fin hx f1
      rcases f4 with f4 | f4 | rfl
      · go_wp2_with fail
        refine (clamp_is x a b _).mono ?_
        rintro e w' ⟨rfl, rfl⟩
        rw [F1.out]
        go_wp2_with fail
        refine (clamp_is 7 3 5 _).mono ?_
        rintro e w' ⟨rfl, rfl⟩
        rw [H75.out]
        go_wp2
        go_ret
        exact ⟨rfl, L1.out⟩
      · by_cases f5 : n < a
        · omega
        · go_wp2_with fail
          refine (clamp_is x a b _).mono ?_
          rintro e w' ⟨rfl, rfl⟩
          rw [F1.out]
          go_wp2_with fail
          refine (clamp_is 7 3 5 _).mono ?_
          rintro e w' ⟨rfl, rfl⟩
          rw [H75.out]
          go_wp2
          go_ret
          exact ⟨rfl, L1.out⟩
      · have f5 : ¬ x < a := by omega
        have f6 : ¬ b < x := by omega
        go_wp2_with fail
        refine (clamp_is x a b _).mono ?_
        rintro e w' ⟨rfl, rfl⟩
        rw [F1.out]
        go_wp2_with fail
        refine (clamp_is 7 3 5 _).mono ?_
        rintro e w' ⟨rfl, rfl⟩
        rw [H75.out]
        go_wp2
        go_ret
        exact ⟨rfl, L1.out⟩

theorem own : ownKnob Try.prog.godebug = none := by kernel_rfl
theorem laidOut : laidOutB Try.prog = true := by kernel_rfl

set_option maxRecDepth 100000 in
theorem lifted (os : Os) (started : os.Started) (H : Type) (enc : TypeId × Value → H) :
    ReturnsInHanded {} Try.checked os 3 .any (Rows.fnClampedSpec.pre6 enc Try.prog Try.f3 Rows.fnClampedRow.domain false) (Rows.fnClampedSpec.post enc Try.prog Try.f3 false true false false) := by
  refine returnsInHanded_of_change (C := Try.checked) own started (by kernel_rfl) Try.func3
    (ChangeSpec.witness6 (enc := enc) (C := Try.checked) false ⟨#[], #[.slice none 0 0], []⟩ 8 (by kernel_rfl) (by kernel_rfl) (by kernel_rfl) (by kernel_rfl)) ?_
  intro W base args ds gs before hval0 hW hcnd _
  have hval : ∀ (j : Nat) t v, Try.f3.params[j]? = some t → args[j]? = some v → Value.okWide Try.prog W .any base t v := hval0
  have hW' := hW
  obtain ⟨p, q, hA0, hV, rfl, hfz, hnd⟩ := hW
  have hA : DataW.TrodAll enc Try.prog W 0 (fun _ => true) true Try.f3.params.toList args.toList ds p := hA0
  rw [Try.params3] at hA hval
  obtain ⟨v0, vs0, d0, ds0, p0, q0, hargs, rfl, rfl, h0, r0⟩ := trodAll_cons hA
  obtain ⟨rfl, rfl, rfl⟩ := trodAll_nil r0
  obtain rfl : args = #[v0] := by cases args; simp_all
  obtain ⟨rfl, rfl⟩ := trodVars_none hV
  obtain ⟨a0, len0, cap0, rfl⟩ := okWide_slice Try.underlying22 (hval 0 22 v0 rfl rfl)
  have k0 := h0
  have lt0 : ∀ x ∈ p0, x.block < W.heap.size := by obtain ⟨m, hm⟩ := k0; exact DataW.trod_lt m _ _ _ hm
  obtain ⟨z0, w0⟩ : ∃ zs, IsRow .u8 W a0 len0 cap0 zs := by
    obtain ⟨fuel, hf⟩ := h0
    rcases open_ints Try.underlying22 Try.underlying5 (by kernel_rfl) hf with ⟨hcs, _⟩ | ⟨x, l, c, zs, hcs, _, hl, hm, hz, _, hcell, hwz⟩
    · simp [Value.cells] at hcs
      obtain ⟨rfl, rfl, rfl⟩ := hcs
      exact ⟨[], .inl ⟨rfl, rfl, rfl, rfl⟩⟩
    · simp [Value.cells] at hcs
      obtain ⟨rfl, rfl, rfl⟩ := hcs
      exact ⟨zs, .inr ⟨_, rfl, hl, hm, by simpa using hz, hcell, hwz⟩⟩
  clear hA0 hval0
  refine (walk a0 len0 cap0 z0 W w0).mono fun e W' ⟨he, bel⟩ => ?_
  subst he
  exact ⟨_, rfl, _, _, _, [], _, [], hW', trodAll_mk1 (shut_bool Try.underlying4 _), (trodAll_cons_mk (Below.trod laidOut (by kernel_rfl) (of_decide_eq_true (by kernel_rfl)) k0 bel lt0) trodAll_mk0), rfl, bel.frame _, fun h => by cases h⟩

theorem over : Rows.fnClampedRow.holds Try.pinned (OpenSpec.ofChange Rows.fnClampedSpec) :=
  OpenClaim.holds_of_wide 3 Try.f3 rfl rfl rfl rfl rfl rfl rfl ⟨rfl, rfl, rfl, rfl, rfl⟩ rfl rfl rfl rfl rfl (by kernel_rfl) Try.func3 (by kernel_rfl)
    (of_decide_eq_true (by kernel_rfl)) (by unfold Func.isWrapper; first | (rw [if_pos (by decide +kernel)]; kernel_rfl) | (rw [if_neg (by decide +kernel)]; exact ⟨rfl, rfl⟩))
    (fun os started H enc _ => lifted os started H enc)

theorem proved : Rows.FnClampedSaid := over
end Go.Proofs.Ythppmncndindiaa.fnClamped
