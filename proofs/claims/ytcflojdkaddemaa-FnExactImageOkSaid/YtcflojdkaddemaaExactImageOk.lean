/- ImageOk answers as its model for every image. No condition. -/
import Derived.Test.YtcflojdkaddemaaImgOkI
import Derived.Test.YtcflojdkaddemaaImgLaw
import Derived.Deep.RegionHeld3
import Derived.Lib.SmallJoins
import Derived.ProofKit
import Derived.OpenShut
import Derived.ShutString
import Derived.ChangeOld
import Derived.Below
import Derived.Carry
namespace Go.Proofs.Ytcflojdkaddemaa.fnExactImageOk
open Go.ChangeShapes Go.WideShapes Go.ChangeAt Go.RowKit Go.Lib
open Go.ChangeMaps (open_string shut_string)

set_option maxRecDepth 100000 in
set_option maxHeartbeats 4000000 in
theorem walk (s : ByteArray) (a : Option Addr) (cap : Nat) (l : List SyL) (w : World) (hs : s.size ≤ maxLen) (hm : l.length ≤ maxLen) (ha : ArgSy w a l) :
    Calls Try.prog 6 #[.agg #[.string s, .slice a l.length cap]] w fun e w' => e = .returned (.bool true) ∧ Below w.heap.size w w' := by
  have T0 := Lib.hid (heap_alloc_new w (.cells #[.string s, .slice a l.length cap] 42))
  have TB := Lib.hid ((Below.refl w.heap.size w).alloc (Nat.le_refl _) (.cells #[.string s, .slice a l.length cap] 42))
  have HA := Lib.hid ha
  have SZ := Lib.hid (l_szImage s a cap l 1048576 _ hs hm (ha.below TB.out) (by omega) (by omega))
  have HS := Lib.hid hs
  clear ha hs
  go_enter Try.func6, Try.ntmps6
  go_wp2_with fail
  refine SZ.out.mono ?_
  rintro e w1 ⟨r, rfl, b1, hr⟩
  have tz : (w.alloc (.cells #[.string s, .slice a l.length cap] 42)).heap.size = w.heap.size + 1 := by simp
  have z1 := b1.size
  rw [tz] at z1 b1
  have P0 := Lib.hid ((b1.block _ (by omega)).trans T0.out)
  have HB1 : Hid (Below w.heap.size w w1) := Lib.hid (TB.out.trans (b1.mono (by omega)))
  clear tz b1 T0 TB SZ
  rcases hr with rfl | ⟨hr0, hle⟩
  · go_wp2
    go_ret
    exact ⟨rfl, HB1.out⟩
  have hl : l.length ≤ 1048576 := by omega
  have hsz : s.size ≤ 1048576 := by omega
  have HSM : Hid (∀ x ∈ l, x.name.size ≤ 1048576) := Lib.hid (fun x hx => by have := sumSy_mem l x hx; omega)
  have hd : decide (r < 0) = false := by simp; omega
  have TA := Lib.hid (fun (W : World) (hb : Below w.heap.size w W) => l_toImage s a cap l W hl (HA.out.below hb))
  obtain ⟨res, hres⟩ : ∃ x, imgB s.data.toList l = x := ⟨_, rfl⟩
  have HRES := Lib.hid hres
  have EA := Lib.hid (fun (W : World) a1 a2 c1 c2 h1 h2 => l_eqImage s l a1 a2 c1 c2 W h1 h2 hl)
  clear hres
  obtain ⟨e0, e1⟩ := cells2 P0.out
  go_wp2_with fail
  refine (TA.out _ HB1.out).mono ?_
  rintro e wa ⟨va, rfl, OA, ba⟩
  obtain ⟨xa, ya, rfl⟩ := owns3_shape OA
  have RA := Lib.hid (readSy_of OA)
  have za := ba.size
  have Pa := Lib.hid ((ba.block _ (by omega)).trans P0.out)
  have HBa : Hid (Below w.heap.size w wa) := Lib.hid (HB1.out.trans (ba.mono (by omega)))
  have SS := Lib.hid (s_imageOk s xa ya l _ hsz (by omega) HSM.out RA.out)
  rw [HRES.out] at SS
  clear OA ba P0 e0 e1 hd
  go_wp2_with fail
  refine SS.out.mono ?_
  rintro e w2 ⟨rfl, b2⟩
  have z2 := b2.size
  have P2 := Lib.hid ((b2.block _ (by omega)).trans Pa.out)
  have HB2 : Hid (Below w.heap.size w w2) := Lib.hid (HBa.out.trans (b2.mono (by omega)))
  clear b2 Pa RA SS
  obtain ⟨e0, e1⟩ := cells2 P2.out
  go_wp2_with fail
  refine (TA.out _ HB2.out).mono ?_
  rintro e w3 ⟨va, rfl, OA, b3⟩
  obtain ⟨xa, ya, rfl⟩ := owns3_shape OA
  have RA := Lib.hid (readSy_of OA)
  have z3 := b3.size
  have P3 := Lib.hid ((b3.block _ (by omega)).trans P2.out)
  have HB3 : Hid (Below w.heap.size w w3) := Lib.hid (HB2.out.trans (b3.mono (by omega)))
  clear OA b3 P2 e0 e1
  have X3 := Lib.hid (heap_alloc_new w3 (.cells #[.string s, .slice xa l.length ya] 47))
  have B3 := Lib.hid ((Below.refl w3.heap.size w3).alloc (Nat.le_refl _) (.cells #[.string s, .slice xa l.length ya] 47))
  have SI := Lib.hid (i_imageOk s xa ya l _ hsz (by omega) HSM.out (RA.out.below B3.out))
  rw [HRES.out] at SI
  go_wp2_with fail
  refine SI.out.mono ?_
  rintro e w4 ⟨rfl, b4⟩
  have zz : (w3.alloc (.cells #[.string s, .slice xa l.length ya] 47)).heap.size = w3.heap.size + 1 := by simp
  have z4 := b4.size
  rw [zz] at z4
  have P4 := Lib.hid ((b4.block _ (by omega)).trans ((Below.heap_alloc w3 _ _ (by omega)).trans P3.out))
  have X4 := Lib.hid ((b4.block w3.heap.size (by omega)).trans X3.out)
  have RA4 := Lib.hid ((RA.out.below B3.out).below b4)
  have HB4 : Hid (Below w.heap.size w w4) := Lib.hid ((HB3.out.trans (B3.out.mono (by omega))).trans (b4.mono (by omega)))
  clear zz b4 P3 X3 B3 RA SI
  have q0 : w.heap.size < w4.heap.size := by omega
  have q3 : w3.heap.size < w4.heap.size := by omega
  have C0 := cells2 P4.out
  have D0 := cells2 X4.out
  have HC0 := Lib.hid C0
  have HD0 := Lib.hid D0
  obtain ⟨e0, e1⟩ := C0
  obtain ⟨g0, g1⟩ := D0
  go_wp2_with fail
  go_region_held3 (fun w' => (w'.cell? ⟨w.heap.size, 0, none⟩ = some (.string s) ∧ w'.cell? ⟨w.heap.size, 1, none⟩ = some (.slice a l.length cap)) ∧ (w'.cell? ⟨w3.heap.size, 0, none⟩ = some (.string s) ∧ w'.cell? ⟨w3.heap.size, 1, none⟩ = some (.slice xa l.length ya)))
    (first | go_keep | (exact ⟨keep2 bA q0 HC0.out, keep2 bA q3 HD0.out⟩) | (exact ⟨keep2 bC (by omega) (keep2 bA q0 HC0.out), keep2 bC (by omega) (keep2 bA q3 HD0.out)⟩))
    (first
      | (go_at_call 24; (with_reducible refine (TA.out _ ?_).mono ?_); exact HB4.out.drew; rintro e wA ⟨va, rfl, OA, bA⟩; have zA : w4.heap.size ≤ wA.heap.size := bA.size)
      | (go_at_call 26; obtain ⟨ha, ma, rfl⟩ := owns3_shape OA; (with_reducible refine (EA.out _ _ _ _ _ ?_ ?_).mono ?_); exact RA4.out.below (undrew bA); exact readSy_of OA; rintro e wC ⟨rfl, bC⟩))
  all_goals
    have zA := bA.size
    have HB8 : Hid (Below w.heap.size w wC) := Lib.hid (HB4.out.drew.trans ((bA.trans (bC.mono (by exact zA))).mono (show w.heap.size ≤ w4.heap.size by omega)))
    clear OA bA bC zA HC0 HD0
    go_wp2
    go_ret
    exact ⟨rfl, HB8.out⟩

theorem own : ownKnob Try.prog.godebug = none := by kernel_rfl
theorem laidOut : laidOutB Try.prog = true := by kernel_rfl

set_option maxRecDepth 100000 in
theorem lifted (os : Os) (started : os.Started) (H : Type) (enc : TypeId × Value → H) :
    ReturnsInHanded {} Try.checked os 6 .any (Rows.fnExactImageOkSpec.pre6 enc Try.prog Try.f6 Rows.fnExactImageOkRow.domain false) (Rows.fnExactImageOkSpec.post enc Try.prog Try.f6 false true false false) := by
  refine returnsInHanded_of_change (C := Try.checked) own started (by kernel_rfl) Try.func6
    (ChangeSpec.witness6 (enc := enc) (C := Try.checked) false ⟨#[], #[.agg #[.string ByteArray.empty, .slice none 0 0]], []⟩ 8 (by kernel_rfl) (by kernel_rfl) (by kernel_rfl) (by kernel_rfl)) ?_
  intro W base args ds gs before hval0 hW hcnd _
  have hval : ∀ (j : Nat) t v, Try.f6.params[j]? = some t → args[j]? = some v → Value.okWide Try.prog W .any base t v := hval0
  have hW' := hW
  obtain ⟨p, q, hA0, hV, rfl, hfz, hnd⟩ := hW
  have hA : DataW.TrodAll enc Try.prog W 0 (fun _ => true) true Try.f6.params.toList args.toList ds p := hA0
  rw [Try.params6] at hA hval
  obtain ⟨v0, vs0, d0, ds0, p0, q0, hargs, rfl, rfl, h0, r0⟩ := trodAll_cons hA
  obtain ⟨rfl, rfl, rfl⟩ := trodAll_nil r0
  obtain rfl : args = #[v0] := by cases args; simp_all
  obtain ⟨rfl, rfl⟩ := trodVars_none hV
  have k0 := h0
  have lt0 : ∀ x ∈ p0, x.block < W.heap.size := by obtain ⟨m, hm⟩ := k0; exact DataW.trod_lt m _ _ _ hm
  obtain ⟨x0, y0, X0, Y0, n0, rfl, _, _, f0, g0⟩ := Joins.open_agg2 Try.underlying42 (by kernel_rfl) (by kernel_rfl) (hval 0 42 v0 rfl rfl) h0
  obtain ⟨sa0, E0, _, ws0⟩ := DataW.trod_string Try.underlying9 f0
  injection E0 with E0; subst E0
  obtain ⟨a0, cap0, l0, rfl, hm0, w0⟩ := argSy_at Try.underlying40 Try.underlying107 (by kernel_rfl) (by kernel_rfl) Try.underlying9 Try.underlying3 Try.underlying3 g0
  clear hA0 hval0
  refine (walk sa0 a0 cap0 l0 W ws0 hm0 w0).mono fun e W' ⟨he, bel⟩ => ?_
  subst he
  exact ⟨_, rfl, _, _, _, [], _, [], hW', trodAll_mk1 (shut_bool Try.underlying4 _), (trodAll_cons_mk (Below.trod laidOut (by kernel_rfl) (of_decide_eq_true (by kernel_rfl)) k0 bel lt0) trodAll_mk0), rfl, bel.frame _, fun h => by cases h⟩

theorem over : Rows.fnExactImageOkRow.holds Try.pinned (OpenSpec.ofChange Rows.fnExactImageOkSpec) :=
  OpenClaim.holds_of_wide 6 Try.f6 rfl rfl rfl rfl rfl rfl rfl ⟨rfl, rfl, rfl, rfl, rfl⟩ rfl rfl rfl rfl rfl (by kernel_rfl) Try.func6 (by kernel_rfl)
    (of_decide_eq_true (by kernel_rfl)) (by unfold Func.isWrapper; first | (rw [if_pos (by decide +kernel)]; kernel_rfl) | (rw [if_neg (by decide +kernel)]; exact ⟨rfl, rfl⟩))
    (fun os started H enc _ => lifted os started H enc)

theorem proved : Rows.FnExactImageOkSaid := over
end Go.Proofs.Ytcflojdkaddemaa.fnExactImageOk
