/- RulesOf answers as its model for every row of places, and what it makes is its own. No condition. -/
import Derived.Test.YtakgjlpgcepnkaaRofI
import Derived.Test.YtakgjlpgcepnkaaRofS
import Derived.Test.YtakgjlpgcepnkaaPlaMk
import Derived.Test.YtakgjlpgcepnkaaRuEq
import Derived.Test.YtakgjlpgcepnkaaRuMk
import Derived.Lib.SmallJoins
import Derived.ProofKit
import Derived.OpenShut
import Derived.ShutString
import Derived.ChangeOld
import Derived.Below
import Derived.Carry
namespace Go.Proofs.Ytakgjlpgcepnkaa.fnExactRulesOf
open Go.ChangeShapes Go.WideShapes Go.ChangeAt Go.RowKit Go.Lib Go.Proofs.Ytakgjlpgcepnkaa
open Go.ChangeMaps (open_string shut_string)

theorem owns_if {B T n s : Nat} {w w' : World} {v : Value} {xs : List Value} (h : w.ownsRow B T s v n xs) (hk : ∀ g, v.ownBlock = some g → w'.heap[g]? = w.heap[g]?) : w'.ownsRow B T s v n xs := by
  refine ⟨h.1, ?_⟩
  rcases h.2 with hn | ⟨g, cap, cur, rfl, hb, hgg, rest⟩
  · exact .inl hn
  · refine .inr ⟨g, cap, cur, rfl, hb, ?_, rest⟩
    rw [hk g (by simp [Value.ownBlock])]
    exact hgg
theorem ownsB {B T n s : Nat} {w w' : World} {v : Value} {xs : List Value} (h : w.ownsRow B T s v n xs) (hb : Below w.heap.size w w') : w'.ownsRow B T s v n xs := owns_if h (fun g hg => hb.block g (h.lt g hg).2)
theorem sumV_pp (X : List VPl) : sumV X = ((X.map (·.pp)).map fun p => p.p.chain.length).sum := by
  unfold sumV
  rw [List.map_map]
  rfl
theorem sumP_pp (l : List APl) : sumP l = ((pplA l).map fun p => p.p.chain.length).sum := by
  unfold sumP pplA
  rw [List.map_map]
  rfl
theorem rofZ_len (l : List PPl) : (rofZ l).length ≤ l.length := by
  unfold rofZ
  split
  · have h := rofF_len [] l; simpa using h
  · simp
set_option maxRecDepth 100000 in
set_option maxHeartbeats 4000000 in
theorem walk (a : Option Addr) (cap : Nat) (l : List APl) (w : World) (hm : l.length ≤ maxLen) (ha : ArgPls w a l) :
    Calls Try.prog 4 #[.slice a l.length cap] w fun e w' => e = .returned (.bool true) ∧ Below w.heap.size w w' := by
  have HA := Lib.hid ha
  have HZ := Lib.hid (l_szPlaceS a cap l 1048576 w hm ha (by omega) (by omega))
  clear ha hm
  go_enter Try.func4, Try.ntmps4
  go_wp2_with fail
  refine HZ.out.mono ?_
  rintro e w0 ⟨r, rfl, b0, hr⟩
  have B0 := Lib.hid b0
  rcases hr with rfl | ⟨r0, r1⟩
  · go_wp2
    go_ret
    exact ⟨rfl, B0.out⟩
  have hd : decide (r < 0) = false := by simp; omega
  have hl : l.length ≤ 1048576 := by omega
  have HSM : Hid (∀ x ∈ l, x.x.p.chain.length ≤ 1048576) := Lib.hid (fun x hx => by have := sumP_mem l x hx; omega)
  have HSP : Hid (l.length + sumP l ≤ 1048576) := Lib.hid (by omega)
  have TO : Hid (∀ W, Below w.heap.size w W → Calls Try.prog 16 #[.slice a l.length cap] W (PlasRes W.heap.size (pplA l) W)) := Lib.hid (fun W hb => l_toPlaceS a cap l W hl (HA.out.below hb) HSM.out)
  have HPL : Hid ((pplA l).length = l.length) := Lib.hid (by unfold pplA; simp)
  have LEN : Hid (∀ X : List VPl, X.map (·.pp) = pplA l → X.length = l.length) := Lib.hid (fun X h => by have := congrArg List.length h; rw [HPL.out] at this; simpa using this)
  obtain ⟨D, hD⟩ : ∃ D, rofZ (pplA l) = D := ⟨_, rfl⟩
  have hDl : D.length ≤ 1048576 := by have := rofZ_len (pplA l); rw [hD, HPL.out] at this; omega
  have HD := Lib.hid hD
  clear r1 b0 hD
  go_wp2_with fail
  refine (TO.out _ B0.out).mono ?_
  rintro e w1 ⟨v1, X1, rfl, O1, M1, P1, b1⟩
  have hx1 := LEN.out X1 P1
  obtain ⟨va, vc, rfl⟩ := slice_shape O1
  have R1 := Lib.hid (rowP_of O1 M1)
  have B1 := Lib.hid (B0.out.trans (b1.mono B0.out.size))
  rw [hx1] at R1
  have HS := Lib.hid (s_rulesOf va vc l.length X1 w1 R1.out hx1 hl)
  rw [P1, HD.out] at HS
  rw [hx1]
  clear O1 M1 P1 b1 R1 hx1
  go_wp2_with fail
  refine HS.out.mono ?_
  rintro e w2 ⟨v2, rfl, O2, b2⟩
  obtain ⟨sa, sc, rfl⟩ := slice_shape O2
  have OW := Lib.hid O2
  have B2 := Lib.hid (B1.out.trans (b2.mono B1.out.size))
  clear HS b2 O2
  go_wp2_with fail
  refine (TO.out _ B2.out).mono ?_
  rintro e w3 ⟨v3, X3, rfl, O3, M3, P3, b3⟩
  have hx3 := LEN.out X3 P3
  obtain ⟨vd, ve, rfl⟩ := slice_shape O3
  have R3 := Lib.hid (rowP_of O3 M3)
  have SH := Lib.hid (shP_of O3 M3)
  have B3 := Lib.hid (B2.out.trans (b3.mono B2.out.size))
  have B23 := Lib.hid b3
  rw [hx3] at R3
  have HI := Lib.hid (i_rulesOf vd ve l.length X3 w3 R3.out hx3 hl)
  rw [P3, HD.out] at HI
  have HSV : Hid (1 + 7 * X3.length + sumV X3 ≤ 15000000) := Lib.hid (by have h1 := sumV_pp X3; rw [P3, ← sumP_pp] at h1; have := HSP.out; omega)
  have HCH : Hid (∀ x ∈ X3, x.x.p.chain.length ≤ 1048576) := Lib.hid (fun x hx => by
    have h1 : x.pp ∈ X3.map (·.pp) := List.mem_map.2 ⟨x, hx, rfl⟩
    rw [P3] at h1
    unfold pplA at h1
    obtain ⟨y, hy, e⟩ := List.mem_map.1 h1
    have e2 : y.x.p.chain = x.x.p.chain := congrArg (fun q : PPl => q.p.chain) e
    rw [← e2]
    exact HSM.out y hy)
  have HP3 := Lib.hid P3
  have HX3 := Lib.hid hx3
  rw [hx3]
  clear O3 M3 P3 b3 hx3
  go_wp2_with fail
  refine HI.out.mono ?_
  rintro e w4 ⟨v4, rfl, O4, b4⟩
  obtain ⟨ga, gc, rfl⟩ := slice_shape O4
  have OG := Lib.hid O4
  have z2 := B23.out.size
  have B34 := Lib.hid b4
  have z3 := b4.size
  have B4 := Lib.hid (B3.out.trans (b4.mono B3.out.size))
  have KP : Hid (∀ W, Below w4.heap.size w4 W → Below w.heap.size w W ∧ Below w3.heap.size w3 W ∧ W.ownsRow w1.heap.size 43 4 (.slice sa D.length sc) D.length (rusV D) ∧ W.ownsRow w3.heap.size 43 4 (.slice ga D.length gc) D.length (rusV D)) := Lib.hid (fun W hb => by
    have h3 := B34.out.trans (hb.mono z3)
    exact ⟨B4.out.trans (hb.mono B4.out.size), h3, ownsB OW.out (B23.out.trans (h3.mono z2)), ownsB OG.out hb⟩)
  have LG : Hid (∀ g, (Value.slice ga D.length gc).ownBlock = some g → w3.heap.size ≤ g ∧ g < w4.heap.size) := Lib.hid (fun g hg => OG.out.lt g hg)
  have LW : Hid (∀ g, (Value.slice sa D.length sc).ownBlock = some g → g < w2.heap.size) := Lib.hid (fun g hg => (OW.out.lt g hg).2)
  have E4 := Lib.hid (l_eqRuleS ga sa gc sc D w4 (readRu_of OG.out) (readRu_of (KP.out _ (Below.refl _ _)).2.2.1) hDl)
  clear HI b4 B34 O4
  go_wp2_with fail
  refine E4.out.mono ?_
  rintro e w5 ⟨rfl, b5⟩
  have D5 := Lib.hid b5
  clear b5 E4
  go_wp2_with fail
  refine (TO.out _ (KP.out _ D5.out).1).mono ?_
  rintro e w6 ⟨v6, X6, rfl, O6, M6, P6, b6⟩
  have hx6 := LEN.out X6 P6
  obtain ⟨vf, vg, rfl⟩ := slice_shape O6
  have R6 := Lib.hid (rowP_of O6 M6)
  have D6 : Hid (Below w4.heap.size w4 w6) := Lib.hid (D5.out.trans (b6.mono D5.out.size))
  rw [hx6] at R6
  have HE := Lib.hid (l_eqPlaceS vd vf ve vg l.length X3 X6 w6 (R3.out.below (KP.out _ D6.out).2.1) R6.out (HP3.out.trans P6.symm) HX3.out (by omega) HCH.out)
  rw [hx6]
  clear O6 M6 P6 b6 hx6 R6
  go_wp2_with fail
  refine HE.out.mono ?_
  rintro e w7 ⟨rfl, b7⟩
  have D7 : Hid (Below w4.heap.size w4 w7) := Lib.hid (D6.out.trans (b7.mono D6.out.size))
  clear b7 HE
  have MP := Lib.hid (l_markPlaceS w2.heap.size w3.heap.size vd X3 ve 1 w7 (SH.out.mkd (Mkd.below (lo := 0) (hi := 0) (KP.out _ D7.out).2.1)) (by rw [HX3.out]; exact hl) HSV.out HCH.out)
  rw [HX3.out, show ((1 : Nat) : Int) = 1 from rfl] at MP
  obtain ⟨K, hK⟩ : ∃ K, 1 + 7 * l.length + sumV X3 = K := ⟨_, rfl⟩
  rw [hK] at MP
  clear hK
  have hdK : decide ((K : Int) < 0) = false := by simp
  go_wp2_with fail
  refine MP.out.mono ?_
  rintro e w8 ⟨rfl, b8⟩
  have K8 : Hid (∀ W, Below w8.heap.size w8 W → Below w.heap.size w W ∧ W.ownsRow w1.heap.size 43 4 (.slice sa D.length sc) D.length (rusV D) ∧ W.ownsRow w3.heap.size 43 4 (.slice ga D.length gc) D.length (rusV D)) := Lib.hid (fun W hb => by
    obtain ⟨kw, k3, ow, og⟩ := KP.out _ D7.out
    have s7 := D7.out.size
    have s2 := B2.out.size
    exact ⟨kw.trans ((b8.toBelow (B := w.heap.size) s2 (by omega)).trans (hb.mono (by have := b8.size; omega))), ownsB (owns_if ow (fun g hg => b8.block (by have := LW.out g hg; omega) (.inl (LW.out g hg)))) hb, ownsB (owns_if og (fun g hg => b8.block (by have := (LG.out g hg).2; omega) (.inr (LG.out g hg).1))) hb⟩)
  have E8 := Lib.hid (l_eqRuleS ga sa gc sc D w8 (readRu_of (K8.out _ (Below.refl _ _)).2.2) (readRu_of (K8.out _ (Below.refl _ _)).2.1) hDl)
  have z8 : w4.heap.size ≤ w8.heap.size := Nat.le_trans D7.out.size b8.size
  clear b8 MP KP SH R3 D5 D6 HSV HCH HP3 HX3 B23
  go_wp2_with fail
  refine E8.out.mono ?_
  rintro e w9 ⟨rfl, b9⟩
  have K9 := Lib.hid (K8.out _ b9)
  have z9 := b9.size
  have MR := Lib.hid (l_markRuleS ga gc D.length (rusV D) 1 w3.heap.size w9 K9.out.2.2 hDl (by omega))
  rw [show ((1 : Nat) : Int) = 1 from rfl] at MR
  clear b9 E8 K8 hdK
  go_wp2_with fail
  refine MR.out.mono ?_
  rintro e w10 ⟨rfl, O10, b10⟩
  have K10 : Hid (∀ W, Below w10.heap.size w10 W → Below w.heap.size w W ∧ ReadRu W sa D ∧ ReadRu W ga (mkRu 1 D.length)) := Lib.hid (fun W hb => by
    obtain ⟨kw, ow, og⟩ := K9.out
    have s3 := B3.out.size
    refine ⟨(kw.grown b10 (by omega) (fun j hj => by have := (LG.out j hj).1; omega)).trans (hb.mono (by have := b10.size; have := B2.out.size; omega)), ?_, ?_⟩
    · exact readRu_of (ownsB (ow.kept b10 (by
        cases h : (Value.slice sa D.length sc).ownBlock with
        | none => exact .inl rfl
        | some g => exact .inr (fun e => by have h1 := LW.out g h; have h2 := (LG.out g e.symm).1; omega))) hb)
    · exact (readRu_of (l := mkRu 1 D.length) (by rw [mkRu_length]; exact O10)).below hb)
  have HH := Lib.hid (fun (W : World) (hb : Below w10.heap.size w10 W) => l_heldRuleS ga gc D.length 1 W (K10.out W hb).2.2 hDl (by omega))
  rw [show ((1 : Nat) : Int) = 1 from rfl] at HH
  obtain ⟨Q, hQ⟩ : ∃ Q, 1 + 4 * D.length = Q := ⟨_, rfl⟩
  rw [hQ] at HH ⊢
  clear hQ
  have hdQ : decide ((Q : Int) < 0) = false := by simp
  clear MR O10 b10 K9
  go_wp2_with fail
  refine (HH.out _ (Below.refl _ _)).mono ?_
  rintro e w11 ⟨rfl, b11⟩
  have D11 := Lib.hid b11
  clear b11
  go_wp2_with fail
  refine (TO.out _ (K10.out _ D11.out).1).mono ?_
  rintro e w12 ⟨v12, X12, rfl, O12, M12, P12, b12⟩
  have hx12 := LEN.out X12 P12
  obtain ⟨vh, vi, rfl⟩ := slice_shape O12
  have R12 := Lib.hid (rowP_of O12 M12)
  have D12 : Hid (Below w10.heap.size w10 w12) := Lib.hid (D11.out.trans (b12.mono D11.out.size))
  rw [hx12] at R12
  have HI2 := Lib.hid (i_rulesOf vh vi l.length X12 w12 R12.out hx12 hl)
  rw [P12, HD.out] at HI2
  rw [hx12]
  clear O12 M12 P12 b12 hx12 R12 D11
  go_wp2_with fail
  refine HI2.out.mono ?_
  rintro e w13 ⟨v13, rfl, O13, b13⟩
  obtain ⟨ya, yc, rfl⟩ := slice_shape O13
  have D13 : Hid (Below w10.heap.size w10 w13) := Lib.hid (D12.out.trans (b13.mono D12.out.size))
  have E13 := Lib.hid (l_eqRuleS ya sa yc sc D w13 (readRu_of O13) (K10.out _ D13.out).2.1 hDl)
  clear O13 b13 HI2 D12
  go_wp2_with fail
  refine E13.out.mono ?_
  rintro e w14 ⟨rfl, b14⟩
  have D14 : Hid (Below w10.heap.size w10 w14) := Lib.hid (D13.out.trans (b14.mono D13.out.size))
  clear b14 E13 D13
  go_wp2_with fail
  refine (HH.out _ D14.out).mono ?_
  rintro e w15 ⟨rfl, b15⟩
  have HB15 := Lib.hid (K10.out _ (D14.out.trans (b15.mono D14.out.size))).1
  clear b15 D14
  go_wp2
  go_ret
  exact ⟨rfl, HB15.out⟩

theorem own : ownKnob Try.prog.godebug = none := by kernel_rfl
theorem laidOut : laidOutB Try.prog = true := by kernel_rfl

set_option maxRecDepth 100000 in
theorem lifted (os : Os) (started : os.Started) (H : Type) (enc : TypeId × Value → H) :
    ReturnsInHanded {} Try.checked os 4 .any (Rows.fnExactRulesOfSpec.pre6 enc Try.prog Try.f4 Rows.fnExactRulesOfRow.domain false) (Rows.fnExactRulesOfSpec.post enc Try.prog Try.f4 false true false false) := by
  refine returnsInHanded_of_change (C := Try.checked) own started (by kernel_rfl) Try.func4
    (ChangeSpec.witness6 (enc := enc) (C := Try.checked) false ⟨#[], #[.slice none 0 0], []⟩ 8 (by kernel_rfl) (by kernel_rfl) (by kernel_rfl) (by kernel_rfl)) ?_
  intro W base args ds gs before hval0 hW hcnd _
  have hval : ∀ (j : Nat) t v, Try.f4.params[j]? = some t → args[j]? = some v → Value.okWide Try.prog W .any base t v := hval0
  have hW' := hW
  obtain ⟨p, q, hA0, hV, rfl, hfz, hnd⟩ := hW
  have hA : DataW.TrodAll enc Try.prog W 0 (fun _ => true) true Try.f4.params.toList args.toList ds p := hA0
  rw [Try.params4] at hA hval
  obtain ⟨v0, vs0, d0, ds0, p0, q0, hargs, rfl, rfl, h0, r0⟩ := trodAll_cons hA
  obtain ⟨rfl, rfl, rfl⟩ := trodAll_nil r0
  obtain rfl : args = #[v0] := by cases args; simp_all
  obtain ⟨rfl, rfl⟩ := trodVars_none hV
  obtain ⟨a0, len0, cap0, rfl⟩ := okWide_slice Try.underlying45 (hval 0 45 v0 rfl rfl)
  have k0 := h0
  have lt0 : ∀ x ∈ p0, x.block < W.heap.size := by obtain ⟨m, hm⟩ := k0; exact DataW.trod_lt m _ _ _ hm
  obtain ⟨l0, hl0, hm0, w0⟩ := argPls_of Try.underlying45 Try.underlying80 (by kernel_rfl) Try.underlying78 (by kernel_rfl) Try.underlying76 (by kernel_rfl) ⟨rfl, rfl⟩ ⟨rfl, rfl, rfl, rfl, rfl, rfl⟩ ⟨rfl, rfl⟩ ⟨(by kernel_rfl), (by kernel_rfl), (by kernel_rfl), (by kernel_rfl), (by kernel_rfl), (by kernel_rfl), (by kernel_rfl), (by kernel_rfl)⟩ Try.underlying3 Try.underlying3 Try.underlying3 Try.underlying3 Try.underlying4 Try.underlying35 Try.underlying3 (by kernel_rfl) Try.underlying3 Try.underlying4 h0
  subst hl0
  clear hA0 hval0
  refine (walk a0 cap0 l0 W hm0 w0).mono fun e W' ⟨he, bel⟩ => ?_
  subst he
  exact ⟨_, rfl, _, _, _, [], _, [], hW', trodAll_mk1 (shut_bool Try.underlying4 _), (trodAll_cons_mk (Below.trod laidOut (by kernel_rfl) (of_decide_eq_true (by kernel_rfl)) k0 bel lt0) trodAll_mk0), rfl, bel.frame _, fun h => by cases h⟩

theorem over : Rows.fnExactRulesOfRow.holds Try.pinned (OpenSpec.ofChange Rows.fnExactRulesOfSpec) :=
  OpenClaim.holds_of_wide 4 Try.f4 rfl rfl rfl rfl rfl rfl rfl ⟨rfl, rfl, rfl, rfl, rfl⟩ rfl rfl rfl rfl rfl (by kernel_rfl) Try.func4 (by kernel_rfl)
    (of_decide_eq_true (by kernel_rfl)) (by unfold Func.isWrapper; first | (rw [if_pos (by decide +kernel)]; kernel_rfl) | (rw [if_neg (by decide +kernel)]; exact ⟨rfl, rfl⟩))
    (fun os started H enc _ => lifted os started H enc)

theorem proved : Rows.FnExactRulesOfSaid := over
end Go.Proofs.Ytakgjlpgcepnkaa.fnExactRulesOf
