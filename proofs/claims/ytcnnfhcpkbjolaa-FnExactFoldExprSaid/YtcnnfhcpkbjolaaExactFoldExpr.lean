/- FoldExpr answers as its model for every row of tokens, leaves the row alone, and returns memory of its own. No condition. -/
import Derived.Test.YtcnnfhcpkbjolaaFoldSpec
import Derived.Test.YtcnnfhcpkbjolaaFoldFrom
import Derived.Test.YtcnnfhcpkbjolaaTokSz
import Derived.Test.YtcnnfhcpkbjolaaTokTo
import Derived.Test.YtcnnfhcpkbjolaaTokEq
import Derived.Test.YtcnnfhcpkbjolaaMarkToks
import Derived.Test.YtcnnfhcpkbjolaaHeldToks
import Derived.ProofKit
import Derived.OpenShut
import Derived.ShutString
import Derived.ChangeOld
import Derived.Below
import Derived.Carry
namespace Go.Proofs.Ytcnnfhcpkbjolaa.fnExactFoldExpr
open Go.ChangeShapes Go.WideShapes Go.ChangeAt Go.RowKit Go.Lib
open Go.ChangeMaps (open_string shut_string)

theorem names_of {w : World} {a : Option Addr} {l : List TokL} (h : ArgT w a l) : ∀ j (hj : j < l.length), l[j].name.size ≤ maxLen := fun j hj => by
  obtain ⟨_, _, _, _, _, _, h, _⟩ := h j hj
  exact h
theorem apart_own {B B' T T' n n' s s' : Nat} {w w' : World} {v v' : Value} {xs xs' : List Value} (h : w.ownsRow B T s v n xs) (h' : w'.ownsRow B' T' s' v' n' xs') (hlt : w.heap.size ≤ B') : v.ownBlock = none ∨ v.ownBlock ≠ v'.ownBlock := by
  cases h0 : v.ownBlock with
  | none => exact .inl rfl
  | some x =>
    refine .inr fun e => ?_
    have p0 := (h.lt x h0).2
    have p1 := (h'.lt x e.symm).1
    omega
theorem apart_own' {B B' T T' n n' s s' : Nat} {w w' : World} {v v' : Value} {xs xs' : List Value} (h : w.ownsRow B T s v n xs) (h' : w'.ownsRow B' T' s' v' n' xs') (hlt : w.heap.size ≤ B') : v'.ownBlock = none ∨ v'.ownBlock ≠ v.ownBlock := by
  cases h0 : v'.ownBlock with
  | none => exact .inl rfl
  | some x =>
    refine .inr fun e => ?_
    have p0 := (h.lt x e.symm).2
    have p1 := (h'.lt x h0).1
    omega

theorem foldV_len (l : List TokL) : (foldV l).length ≤ 20 := by
  unfold foldV
  split
  · rename_i h
    have h1 := ((exprB_scan l).1 h).1
    have h2 := foldE_len l
    omega
  · simp

set_option maxHeartbeats 2000000 in
theorem walk (a : Option Addr) (cap : Nat) (l : List TokL) (w : World) (hm : l.length ≤ maxLen) (ha : ArgT w a l) :
    Calls Try.prog 3 #[.slice a l.length cap] w fun e w' => e = .returned (.bool true) ∧ Below w.heap.size w w' := by
  have HA := Lib.hid ha
  have HN := Lib.hid (names_of ha)
  clear ha
  go_enter Try.func3, Try.ntmps3
  go_wp2_with fail
  refine (l_szTokS a cap l 1048576 _ hm HA.out (by omega) (by omega)).mono ?_
  rintro e w1 ⟨r, rfl, b1, hr⟩
  have HA1 := Lib.hid (HA.out.below b1)
  have HB1 := Lib.hid b1
  have z1 := b1.size
  clear b1
  rcases hr with rfl | ⟨hr0, hle⟩
  · go_wp2
    go_ret
    exact ⟨rfl, HB1.out⟩
  have hl : l.length ≤ 1048576 := by omega
  have hd : decide (r < 0) = false := by simp; omega
  have S := Lib.hid (fun (W : World) a c h => s_foldExpr a c l W hl h HN.out)
  have I := Lib.hid (fun (W : World) a c h => (i_foldExpr a c l W hl h HN.out).mono (fun e w' hx => (by obtain ⟨v, h1, h2, h3, _⟩ := hx; exact ⟨v, h1, h2, h3⟩ : Toks 35 W.heap.size (foldV l) W e w')))
  have hR4 := foldV_len l
  obtain ⟨R, hR⟩ : ∃ R, foldV l = R := ⟨_, rfl⟩
  have hR' : (if exprB l = true then foldE l else []) = R := hR
  rw [hR'] at S
  rw [hR] at I hR4
  clear hR hR'
  go_wp2_with fail
  refine (l_toTokS a cap l _ hl HA1.out).mono ?_
  rintro e w2 ⟨t0, rfl, T0, b2⟩
  obtain ⟨a0, c0, rfl⟩ := owns3_shape T0
  have R0 := Lib.hid (readT_of T0)
  have HA2 := Lib.hid (HA1.out.below b2)
  have HB2 := Lib.hid (HB1.out.trans (b2.mono z1))
  have z2 := HB2.out.size
  clear b2 T0 hd
  go_wp2_with fail
  refine (S.out _ _ _ R0.out).mono ?_
  rintro e w3 ⟨v0, rfl, O0, b3⟩
  obtain ⟨p0, q0, rfl⟩ := owns3_shape O0
  have O03 := Lib.hid O0
  have HA3 := Lib.hid (HA2.out.below b3)
  have HB3 := Lib.hid (HB2.out.trans (b3.mono z2))
  have z3 := HB3.out.size
  clear b3 R0 O0
  go_wp2_with fail
  refine (l_toTokS a cap l _ hl HA3.out).mono ?_
  rintro e w4 ⟨t1, rfl, T1, b4⟩
  obtain ⟨a1, c1, rfl⟩ := owns3_shape T1
  have T14 := Lib.hid T1
  have HA4 := Lib.hid (HA3.out.below b4)
  have O04 := Lib.hid (owns3_below O03.out b4)
  have HB4 := Lib.hid (HB3.out.trans (b4.mono z3))
  have z4 := HB4.out.size
  have y4 := b4.size
  clear b4 T1
  go_wp2_with fail
  refine (I.out _ _ _ (readT_of T14.out)).mono ?_
  rintro e w5 ⟨v1, rfl, O1, b5⟩
  obtain ⟨p1, q1, rfl⟩ := owns3_shape O1
  have O15 := Lib.hid O1
  have HA5 := Lib.hid (HA4.out.below b5)
  have O05 := Lib.hid (owns3_below O04.out b5)
  have T15 := Lib.hid (owns3_below T14.out b5)
  have HB5 := Lib.hid (HB4.out.trans (b5.mono z4))
  have z5 := HB5.out.size
  have y5 := b5.size
  clear b5 O1
  go_wp2_with fail
  refine (l_eqTokS p1 p0 q1 q0 R _ (readT_of O15.out) (readT_of O05.out) (by omega)).mono ?_
  rintro e w6 ⟨rfl, b6⟩
  have HA6 := Lib.hid (HA5.out.below b6)
  have O06 := Lib.hid (owns3_below O05.out b6)
  have O16 := Lib.hid (owns3_below O15.out b6)
  have T16 := Lib.hid (owns3_below T15.out b6)
  have HB6 := Lib.hid (HB5.out.trans (b6.mono z5))
  have z6 := HB6.out.size
  have y6 := b6.size
  clear b6
  go_wp2_with fail
  refine (l_toTokS a cap l _ hl HA6.out).mono ?_
  rintro e w7 ⟨t2, rfl, T2, b7⟩
  obtain ⟨a2, c2, rfl⟩ := owns3_shape T2
  have R2 := Lib.hid (readT_of T2)
  have HA7 := Lib.hid (HA6.out.below b7)
  have O07 := Lib.hid (owns3_below O06.out b7)
  have O17 := Lib.hid (owns3_below O16.out b7)
  have T17 := Lib.hid (owns3_below T16.out b7)
  have HB7 := Lib.hid (HB6.out.trans (b7.mono z6))
  have z7 := HB7.out.size
  have y7 := b7.size
  clear b7 T2
  go_wp2_with fail
  refine (l_eqTokS a1 a2 c1 c2 l _ (readT_of T17.out) R2.out hl).mono ?_
  rintro e w8 ⟨rfl, b8⟩
  have HA8 := Lib.hid (HA7.out.below b8)
  have O08 := Lib.hid (owns3_below O07.out b8)
  have O18 := Lib.hid (owns3_below O17.out b8)
  have T18 := Lib.hid (owns3_below T17.out b8)
  have HB8 := Lib.hid (HB7.out.trans (b8.mono z7))
  have z8 := HB8.out.size
  have y8 := b8.size
  clear b8
  have n0 := apart_own O03.out T14.out (Nat.le_refl _)
  have n1 := apart_own' T14.out O15.out (Nat.le_refl _)
  have NT0 := Lib.hid n0
  have NT1 := Lib.hid n1
  have N01 := Lib.hid (apart_own O04.out O15.out (Nat.le_refl _))
  clear n0 n1
  go_wp2_with fail
  refine (l_markToks a1 c1 l.length _ 1 w3.heap.size _ T18.out (by omega) hl (by omega) (by omega)).mono ?_
  rintro e w9 ⟨rfl, _, g9⟩
  have HA9 : Hid (ArgT w9 a l) := Lib.hid (HA.out.below ((HB8.out).grown g9 (by omega) (fun j hj => by have := (T14.out.lt j hj).1; omega)))
  have O09 := Lib.hid (O08.out.kept g9 NT0.out)
  have O19 := Lib.hid (O18.out.kept g9 NT1.out)
  have HB9 := Lib.hid (HB8.out.grown g9 (by omega) (fun j hj => by have := (T14.out.lt j hj).1; omega))
  have z9 := HB9.out.size
  have y9 := g9.size
  clear g9
  have hd : decide (((1 + 3 * l.length : Nat) : Int) < 0) = false := by simp; omega
  go_wp2_with fail
  refine (l_eqTokS p1 p0 q1 q0 R _ (readT_of O19.out) (readT_of O09.out) (by omega)).mono ?_
  rintro e w10 ⟨rfl, b10⟩
  have HA10 := Lib.hid (HA9.out.below b10)
  have O010 := Lib.hid (owns3_below O09.out b10)
  have O110 := Lib.hid (owns3_below O19.out b10)
  have HB10 := Lib.hid (HB9.out.trans (b10.mono z9))
  have z10 := HB10.out.size
  have y10 := b10.size
  clear b10 hd
  go_wp2_with fail
  refine (l_markToks p1 q1 R.length _ 1 w4.heap.size _ O110.out (by omega) (by omega) (by omega) (by omega)).mono ?_
  rintro e w11 ⟨rfl, O111', g11⟩
  have O111 := Lib.hid O111'
  have O011 := Lib.hid (O010.out.kept g11 N01.out)
  have HB11 := Lib.hid (HB10.out.grown g11 (by omega) (fun j hj => by have := (O15.out.lt j hj).1; omega))
  have HA11 : Hid (ArgT w11 a l) := Lib.hid (HA.out.below HB11.out)
  have z11 := HB11.out.size
  have y11 := g11.size
  clear g11 O111'
  have hlm : (mkTs 1 R.length).length = R.length := mkTs_length _ _
  have RD11 : Hid (ReadT w11 p1 (mkTs 1 R.length)) := Lib.hid (readT_of (l := mkTs 1 R.length) (by rw [hlm]; exact O111.out))
  have HLM := Lib.hid hlm
  clear hlm
  go_wp2_with fail
  refine (l_heldToks p1 q1 R.length 1 _ RD11.out (by omega) (by omega) (by omega)).mono ?_
  rintro e w12 ⟨rfl, b12⟩
  have RD12 := Lib.hid (RD11.out.below b12)
  have O012 := Lib.hid (owns3_below O011.out b12)
  have HA12 := Lib.hid (HA11.out.below b12)
  have HB12 := Lib.hid (HB11.out.trans (b12.mono z11))
  have z12 := HB12.out.size
  clear b12
  have hd : decide (((1 + 3 * R.length : Nat) : Int) < 0) = false := by simp; omega
  go_wp2_with fail
  refine (l_toTokS a cap l _ hl HA12.out).mono ?_
  rintro e w13 ⟨t3, rfl, T3, b13⟩
  obtain ⟨a3, c3, rfl⟩ := owns3_shape T3
  have R3 := Lib.hid (readT_of T3)
  have O013 := Lib.hid (owns3_below O012.out b13)
  have RD13 := Lib.hid (RD12.out.below b13)
  have HB13 := Lib.hid (HB12.out.trans (b13.mono z12))
  have z13 := HB13.out.size
  clear b13 T3 hd
  go_wp2_with fail
  refine (I.out _ _ _ R3.out).mono ?_
  rintro e w14 ⟨v2, rfl, O2, b14⟩
  obtain ⟨p2, q2, rfl⟩ := owns3_shape O2
  have R4 := Lib.hid (readT_of O2)
  have O014 := Lib.hid (owns3_below O013.out b14)
  have RD14 := Lib.hid (RD13.out.below b14)
  have HB14 := Lib.hid (HB13.out.trans (b14.mono z13))
  have z14 := HB14.out.size
  clear b14 O2
  go_wp2_with fail
  refine (l_eqTokS p2 p0 q2 q0 R _ R4.out (readT_of O014.out) (by omega)).mono ?_
  rintro e w15 ⟨rfl, b15⟩
  have RD15 := Lib.hid (RD14.out.below b15)
  have HB15 := Lib.hid (HB14.out.trans (b15.mono z14))
  have z15 := HB15.out.size
  clear b15
  go_wp2_with fail
  refine (l_heldToks p1 q1 R.length 1 _ RD15.out (by omega) (by omega) (by omega)).mono ?_
  rintro e w16 ⟨rfl, b16⟩
  have HB16 := Lib.hid (HB15.out.trans (b16.mono z15))
  clear b16
  have hd : decide (((1 + 3 * R.length : Nat) : Int) < 0) = false := by simp; omega
  go_wp2
  go_ret
  exact ⟨rfl, HB16.out⟩

theorem own : ownKnob Try.prog.godebug = none := by kernel_rfl
theorem laidOut : laidOutB Try.prog = true := by kernel_rfl

set_option maxRecDepth 100000 in
theorem lifted (os : Os) (started : os.Started) (H : Type) (enc : TypeId × Value → H) :
    ReturnsInHanded {} Try.checked os 3 .any (Rows.fnExactFoldExprSpec.pre6 enc Try.prog Try.f3 Rows.fnExactFoldExprRow.domain false) (Rows.fnExactFoldExprSpec.post enc Try.prog Try.f3 false true false false) := by
  refine returnsInHanded_of_change (C := Try.checked) own started (by kernel_rfl) Try.func3
    (ChangeSpec.witness6 (enc := enc) (C := Try.checked) false ⟨#[], #[.slice none 0 0], []⟩ 8 (by kernel_rfl) (by kernel_rfl) (by kernel_rfl) (by kernel_rfl)) ?_
  intro W base args ds gs before hval0 hW hcnd _
  have hval : ∀ (j : Nat) t v, Try.f3.params[j]? = some t → args[j]? = some v → Value.okWide Try.prog W .any base t v := hval0
  have hW' := hW
  obtain ⟨p, q, hA0, hV, rfl, hfz, hnd⟩ := hW
  have hA : DataW.TrodAll enc Try.prog W 0 (fun _ => true) true Try.f3.params.toList args.toList ds p := hA0
  rw [Try.params3] at hA hval
  obtain ⟨v0, vs0, d0, ds0, p0, q0, hargs, rfl, rfl, h0, r0⟩ := trodAll_cons hA
  obtain ⟨rfl, rfl, rfl⟩ := trodAll_nil r0
  obtain rfl : args = #[v0] := by cases args; simp_all
  obtain ⟨rfl, rfl⟩ := trodVars_none hV
  obtain ⟨a0, len0, cap0, rfl⟩ := okWide_slice Try.underlying22 (hval 0 22 v0 rfl rfl)
  have k0 := h0
  have lt0 : ∀ x ∈ p0, x.block < W.heap.size := by obtain ⟨m, hm⟩ := k0; exact DataW.trod_lt m _ _ _ hm
  obtain ⟨l0, hl0, hm0, w0⟩ := argT_of Try.underlying22 Try.underlying32 (by kernel_rfl) (by kernel_rfl) Try.underlying3 Try.underlying3 Try.underlying9 h0
  subst hl0
  clear hA0 hval0
  refine (walk a0 cap0 l0 W hm0 w0).mono fun e W' ⟨he, bel⟩ => ?_
  subst he
  exact ⟨_, rfl, _, _, _, [], _, [], hW', trodAll_mk1 (shut_bool Try.underlying4 _), (trodAll_cons_mk (Below.trod laidOut (by kernel_rfl) (of_decide_eq_true (by kernel_rfl)) k0 bel lt0) trodAll_mk0), rfl, bel.frame _, fun h => by cases h⟩

theorem over : Rows.fnExactFoldExprRow.holds Try.pinned (OpenSpec.ofChange Rows.fnExactFoldExprSpec) :=
  OpenClaim.holds_of_wide 3 Try.f3 rfl rfl rfl rfl rfl rfl rfl ⟨rfl, rfl, rfl, rfl, rfl⟩ rfl rfl rfl rfl rfl (by kernel_rfl) Try.func3 (by kernel_rfl)
    (of_decide_eq_true (by kernel_rfl)) (by unfold Func.isWrapper; first | (rw [if_pos (by decide +kernel)]; kernel_rfl) | (rw [if_neg (by decide +kernel)]; exact ⟨rfl, rfl⟩))
    (fun os started H enc _ => lifted os started H enc)

theorem proved : Rows.FnExactFoldExprSaid := over
end Go.Proofs.Ytcnnfhcpkbjolaa.fnExactFoldExpr
