/- DecodeOp answers as its model for every string and every index. No condition. -/
import Derived.Test.YtcflojdkaddemaaOpDec
import Derived.Test.YtcflojdkaddemaaOpEq
import Derived.ProofKit
import Derived.OpenShut
import Derived.ShutString
import Derived.ChangeOld
import Derived.Below
import Derived.Carry
namespace Go.Proofs.Ytcflojdkaddemaa.fnExactDecodeOp
open Go.ChangeShapes Go.WideShapes Go.ChangeAt Go.RowKit Go.Lib
open Go.ChangeMaps (open_string shut_string)

set_option maxHeartbeats 400000 in
theorem walk (s : ByteArray) (x : Int) (w : World) (hm : s.size ≤ maxLen) (_w1 : (Lit.int .i64 x).wf = true) :
    Calls Try.prog 4 #[.string s, .int .i64 x] w fun e w' => e = .returned (.bool true) ∧ Below w.heap.size w w' := by
  have hm' := hm
  unfold maxLen at hm'
  clear _w1
  by_cases h1 : 1048576 < s.size
  · go_enter Try.func4, Try.ntmps4
    go_wp2
    go_ret
    exact ⟨rfl, Below.refl _ _⟩
  · have S := Lib.hid (fun W => s_dec7 s x W (by omega))
    have I := Lib.hid (fun W => i_dec7 s x W (by omega))
    obtain ⟨c, a, n, b, hd⟩ := decV_shape (decZ s.data.toList x)
    rw [hd] at S I
    clear hd
    go_enter Try.func4, Try.ntmps4
    go_wp2_with fail
    refine (S.out _).mono ?_
    rintro e w1 ⟨rfl, b1⟩
    have B1 := Lib.hid b1
    have z0 := b1.size
    clear b1
    go_wp2_with fail
    have B2 : Hid (Below w.heap.size w (w1.alloc (.cells #[.int .i64 c, .int .i64 a] 28))) := Lib.hid (B1.out.alloc (by omega) _)
    have hk := heap_alloc_new w1 (.cells #[.int .i64 c, .int .i64 a] 28)
    have HK := Lib.hid hk
    clear hk
    refine (I.out _).mono ?_
    rintro e w2 ⟨rfl, b2⟩
    have B3 : Hid (Below w.heap.size w w2) := Lib.hid (B2.out.trans (b2.mono (by simp; omega)))
    have HK2 : Hid (w2.heap[w1.heap.size]? = some (.cells #[.int .i64 c, .int .i64 a] 28 (0, 0))) := Lib.hid ((b2.block _ (by simp)).trans HK.out)
    have z1 := b2.size
    have q0 : w2.cell? ⟨w1.heap.size, 0, none⟩ = some (.int .i64 c) := (blk HK2.out).1 0 _ rfl
    have q1 : w2.cell? ⟨w1.heap.size, 1, none⟩ = some (.int .i64 a) := (blk HK2.out).1 1 _ rfl
    have z2 : w1.heap.size < w2.heap.size := (blk HK2.out).2.2
    clear b2 z1
    go_wp2_with fail
    refine (l_eqOp c a _).mono ?_
    rintro e w3 ⟨rfl, b3⟩
    have B4 : Hid (Below w.heap.size w w3) := Lib.hid ((B3.out.alloc (by omega) _).trans (b3.mono (by simp; omega)))
    clear b3
    go_wp2
    go_ret
    exact ⟨rfl, B4.out⟩

theorem own : ownKnob Try.prog.godebug = none := by kernel_rfl
theorem laidOut : laidOutB Try.prog = true := by kernel_rfl

set_option maxRecDepth 100000 in
theorem lifted (os : Os) (started : os.Started) (H : Type) (enc : TypeId × Value → H) :
    ReturnsInHanded {} Try.checked os 4 .any (Rows.fnExactDecodeOpSpec.pre6 enc Try.prog Try.f4 Rows.fnExactDecodeOpRow.domain false) (Rows.fnExactDecodeOpSpec.post enc Try.prog Try.f4 false true false false) := by
  refine returnsInHanded_of_change (C := Try.checked) own started (by kernel_rfl) Try.func4
    (ChangeSpec.witness6 (enc := enc) (C := Try.checked) false ⟨#[], #[.string ByteArray.empty, .int .i64 0], []⟩ 8 (by kernel_rfl) (by kernel_rfl) (by kernel_rfl) (by kernel_rfl)) ?_
  intro W base args ds gs before hval0 hW hcnd _
  have hval : ∀ (j : Nat) t v, Try.f4.params[j]? = some t → args[j]? = some v → Value.okWide Try.prog W .any base t v := hval0
  have hW' := hW
  obtain ⟨p, q, hA0, hV, rfl, hfz, hnd⟩ := hW
  have hA : DataW.TrodAll enc Try.prog W 0 (fun _ => true) true Try.f4.params.toList args.toList ds p := hA0
  rw [Try.params4] at hA hval
  obtain ⟨v0, vs0, d0, ds0, p0, q0, hargs, rfl, rfl, h0, r0⟩ := trodAll_cons hA
  obtain ⟨v1, vs1, d1, ds1, p1, q1, rfl, rfl, rfl, h1, r1⟩ := trodAll_cons r0
  obtain ⟨rfl, rfl, rfl⟩ := trodAll_nil r1
  obtain rfl : args = #[v0, v1] := by cases args; simp_all
  obtain ⟨rfl, rfl⟩ := trodVars_none hV
  obtain ⟨a0, rfl, rfl, rfl, w0⟩ := open_string Try.underlying9 (hval 0 9 v0 rfl rfl) h0
  obtain ⟨a1, rfl, rfl, rfl, w1⟩ := open_int Try.underlying3 (hval 1 3 v1 rfl rfl) h1
  clear hA0 hval0
  refine (walk a0 a1 W w0 w1).mono fun e W' ⟨he, bel⟩ => ?_
  subst he
  exact ⟨_, rfl, _, _, _, [], _, [], hW', trodAll_mk1 (shut_bool Try.underlying4 _), (trodAll_cons_mk (shut_string Try.underlying9 w0) (trodAll_cons_mk (shut_int Try.underlying3 w1) trodAll_mk0)), rfl, bel.frame _, fun h => by cases h⟩

theorem over : Rows.fnExactDecodeOpRow.holds Try.pinned (OpenSpec.ofChange Rows.fnExactDecodeOpSpec) :=
  OpenClaim.holds_of_wide 4 Try.f4 rfl rfl rfl rfl rfl rfl rfl ⟨rfl, rfl, rfl, rfl, rfl⟩ rfl rfl rfl rfl rfl (by kernel_rfl) Try.func4 (by kernel_rfl)
    (of_decide_eq_true (by kernel_rfl)) (by unfold Func.isWrapper; first | (rw [if_pos (by decide +kernel)]; kernel_rfl) | (rw [if_neg (by decide +kernel)]; exact ⟨rfl, rfl⟩))
    (fun os started H enc _ => lifted os started H enc)

theorem proved : Rows.FnExactDecodeOpSaid := over
end Go.Proofs.Ytcflojdkaddemaa.fnExactDecodeOp
