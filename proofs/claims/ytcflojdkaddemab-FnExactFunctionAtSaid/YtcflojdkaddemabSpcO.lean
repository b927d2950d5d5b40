/- FunctionAt, the model's and the program's. -/
import Derived.Test.YtcflojdkaddemabSpcK
namespace Go.Proofs.Ytcflojdkaddemab
open Go.RowKit Go.Lib

theorem idx_is (v : Int) : ∀ (E : List Int) (k : Nat), ixP (fun e => decide (e = v)) k E = idxF v k E
  | [], _ => rfl
  | x :: r, k => by
    rw [ixP, idxF, idx_is v r (k + 1)]
    by_cases h : x = v
    · rw [if_pos (by simpa using h), if_pos h]
    · rw [if_neg (by simpa using h), if_neg h]
theorem run_eql_spot (i j o p : Int) (W : World) : (binOp .eql 67 (.agg #[.int .i64 i, .int .i64 o]) (.agg #[.int .i64 j, .int .i64 p])).run Try.prog W = .ok (.bool (decide (i = j) && decide (o = p))) W := by
  have hu : Try.prog.underlying 67 = some (.struct (Try.prog.fieldsOf 67)) := by kernel_rfl
  rw [run_eql_struct, run_equalIn_struct W 9999 67 _ _ hu (by kernel_rfl)]
  simp [Program.fieldsOf, Try.underlying67, Try.underlying3, Op.eqFields, go_sem]
  by_cases h1 : i = j <;> by_cases h2 : o = p <;> simp [h1, h2]
/-- What is known of a spot within a space: its symbol and where that begins. -/
theorem SpIs.beg {x0 x1 : ImA} {b0 b1 : Int} {E : List Int} (h : SpIs x0 x1 b0 b1 E) {a i o : Int} (hs : spA x0 x1 b0 b1 a = (i, o)) (hi : 0 ≤ i) : (i = 0 ∨ i = 1) ∧ ∃ (k : Nat) (hk : k < (symsOf x0 x1 i).length), symZ (symsOf x0 x1 i) o = (k : Int) ∧ begZ (symsOf x0 x1 i) o = ((symsOf x0 x1 i)[k]).start ∧ 0 ≤ ((symsOf x0 x1 i)[k]).start ∧ ((symsOf x0 x1 i)[k]).start ≤ 1000000 ∧ ∀ e, spA x0 x1 b0 b1 e = (i, ((symsOf x0 x1 i)[k]).start) ↔ e = (if i = 0 then b0 else b1) + ((symsOf x0 x1 i)[k]).start := by
  obtain ⟨h0, k, hk, hy, h1, h2⟩ := h.spot hs hi
  have ho : o ≤ 1000000 := by
    have s0 := h.size0
    have s1 := h.size1
    unfold spA at hs
    rcases spot_cases b0 x0.s.size b1 x1.s.size a with ⟨e, p1, p2⟩ | ⟨e, p1, p2, _⟩ | ⟨e, _⟩
    · rw [e] at hs; injection hs with _ q; omega
    · rw [e] at hs; injection hs with _ q; omega
    · rw [e] at hs; injection hs with q _; omega
  exact ⟨h0, k, hk, hy, begZ_at hk hy, h1, by omega, fun e => h.spot_eq hs hi h1 h2 e⟩

set_option maxRecDepth 100000 in
set_option maxHeartbeats 4000000 in
theorem s_functionAt (I : List ImA) (B E : List Int) (a : Int) (a0 a1 a2 : Option Addr) (c0 c1 c2 : Nat) (w : World) (hI : ReadIms w a0 I) (hB : ReadI w a1 B) (hE : ReadI w a2 E) (hs : SmlI I B E) (ha : a ≤ 9223372036854775807) :
    Calls Try.prog 11 #[.agg #[.slice a0 I.length c0, .slice a1 B.length c1, .slice a2 E.length c2], .int .i64 a] w fun e w' => e = .returned (.int .i64 (funZ I B E a)) ∧ Below w.heap.size w w' := by
  have TB := Lib.hid ((Below.refl w.heap.size w).alloc (Nat.le_refl _) (.cells #[.slice a0 I.length c0, .slice a1 B.length c1, .slice a2 E.length c2] 33))
  have T0 := Lib.hid (heap_alloc_new w (.cells #[.slice a0 I.length c0, .slice a1 B.length c1, .slice a2 E.length c2] 33))
  have HE := Lib.hid hE
  have LO := Lib.hid (fun W (hb : Below w.heap.size w W) => s_slocate I B E a a0 a1 a2 c0 c1 c2 W (hI.below hb) (hB.below hb) (hE.below hb) hs ha)
  have hEl : E.length ≤ 1048576 := hs.2.2.1
  cases hv : spB I B E with
  | false =>
    have HV := Lib.hid (funZ_no (a := a) hv)
    rw [slocZ_no (a := a) hv] at LO
    unfold locV at LO
    dsimp only at LO
    clear hv hI hB hE hs
    go_enter Try.func11, Try.ntmps11
    go_wp2_with fail
    refine (LO.out _ TB.out).mono ?_
    rintro e w1 ⟨rfl, bb1⟩
    have HB1 : Hid (Below w.heap.size w w1) := Lib.hid (TB.out.trans (bb1.mono (by simp)))
    clear bb1
    go_wp2
    go_ret
    exact ⟨by rw [HV.out]; rfl, HB1.out⟩
  | true =>
    obtain ⟨x0, x1, b0, b1, rfl, rfl, h3, h4, SP⟩ := spB_is hv
    have HV := Lib.hid (funZ_yes (a := a) hv)
    rw [slocZ_yes (a := a) hv] at LO
    have SY0 := Lib.hid (fun W o h => s_symbolAt x0.s x0.a x0.c x0.l o W (by have := (hs.2.2.2.1 x0 (by simp)).2.1; omega) h)
    have SY1 := Lib.hid (fun W o h => s_symbolAt x1.s x1.a x1.c x1.l o W (by have := (hs.2.2.2.1 x1 (by simp)).2.1; omega) h)
    have BG := Lib.hid (fun i o => @SpIs.beg x0 x1 b0 b1 E SP a i o)
    obtain ⟨pi, po, hpp, hcs⟩ : ∃ pi po, spA x0 x1 b0 b1 a = (pi, po) ∧ (pi = 0 ∨ pi = 1 ∨ (pi = -1 ∧ po = -1)) := by
      have SC := spot_cases b0 x0.s.size b1 x1.s.size a
      change (spA x0 x1 b0 b1 a = _ ∧ _) ∨ (spA x0 x1 b0 b1 a = _ ∧ _) ∨ (spA x0 x1 b0 b1 a = _ ∧ _) at SC
      rcases SC with ⟨h, _⟩ | ⟨h, _⟩ | ⟨h, _⟩
      · exact ⟨_, _, h, .inl rfl⟩
      · exact ⟨_, _, h, .inr (.inl rfl)⟩
      · exact ⟨_, _, h, .inr (.inr ⟨rfl, rfl⟩)⟩
    rw [hpp] at HV LO BG
    unfold locV at LO
    dsimp only at LO
    have l0 := SP.l0
    have u0 := SP.u0
    have l1 := SP.l1
    have u1 := SP.u1
    have HS0 : Hid (symsOf x0 x1 0 = x0.l ∧ symsOf x0 x1 1 = x1.l) := Lib.hid ⟨rfl, rfl⟩
    obtain ⟨g, rfl, hg, HI, HR0, HR1⟩ := readIms2 hI
    obtain ⟨k, rfl, hk, HB1, HB2⟩ := readI2 hB
    have HR0 := Lib.hid HR0
    have HR1 := Lib.hid HR1
    have HX : Hid (∀ W, Below w.heap.size w W → (W.cell? ⟨g, 0, none⟩ = some (.string x0.s) ∧ W.cell? ⟨g, 1, none⟩ = some (.slice x0.a x0.l.length x0.c) ∧ W.cell? ⟨g, 2, none⟩ = some (.string x1.s) ∧ W.cell? ⟨g, 3, none⟩ = some (.slice x1.a x1.l.length x1.c)) ∧ (W.cell? ⟨k, 0, none⟩ = some (.int .i64 b0) ∧ W.cell? ⟨k, 1, none⟩ = some (.int .i64 b1))) := Lib.hid (fun W b' =>
      ⟨⟨(b'.cell (p := ⟨g, 0, none⟩) hg).trans HI.1, (b'.cell (p := ⟨g, 1, none⟩) hg).trans HI.2.1, (b'.cell (p := ⟨g, 2, none⟩) hg).trans HI.2.2.1, (b'.cell (p := ⟨g, 3, none⟩) hg).trans HI.2.2.2⟩, ⟨(b'.cell (p := ⟨k, 0, none⟩) hk).trans HB1, (b'.cell (p := ⟨k, 1, none⟩) hk).trans HB2⟩⟩)
    have HC : Hid (∀ W, Below (w.heap.size + 1) (w.alloc (.cells #[.slice (some ⟨g, 0, none⟩) 2 c0, .slice (some ⟨k, 0, none⟩) 2 c1, .slice a2 E.length c2] 33)) W → (W.cell? ⟨w.heap.size, 0, none⟩ = some (.slice (some ⟨g, 0, none⟩) 2 c0) ∧ W.cell? ⟨w.heap.size, 1, none⟩ = some (.slice (some ⟨k, 0, none⟩) 2 c1) ∧ W.cell? ⟨w.heap.size, 2, none⟩ = some (.slice a2 E.length c2)) ∧ Below w.heap.size w W) := Lib.hid (fun W hb => by
      have hn := (hb.block w.heap.size (by omega)).trans (heap_alloc_new w _)
      exact ⟨⟨(blk hn).1 0 _ rfl, (blk hn).1 1 _ rfl, (blk hn).1 2 _ rfl⟩, ((Below.refl w.heap.size w).alloc (Nat.le_refl _) _).trans (hb.mono (by omega))⟩)
    clear hv hI hB hE hs SP HI HB1 HB2 hg hk hpp
    rcases hcs with rfl | rfl | ⟨rfl, rfl⟩
    · obtain ⟨_, ky, hky, hy9, hbg9, hs09, hs19, hiff9⟩ := BG.out 0 po rfl (by omega)
      have hy : symZ x0.l po = (ky : Int) := hy9
      have hky' : ky < x0.l.length := hky
      have hbg : begZ x0.l po = (x0.l[ky]).start := hbg9
      have hs0 : 0 ≤ (x0.l[ky]).start := hs09
      have hs1 : (x0.l[ky]).start ≤ 1000000 := hs19
      have HVV : Hid (funZ [x0, x1] [b0, b1] E a = idxF (b0 + (x0.l[ky]).start) 0 E) := Lib.hid (by rw [HV.out]; dsimp only; rw [if_neg (by omega), HS0.out.1, hbg]; rfl)
      have SYq := Lib.hid (fun W h => SY0.out W po h)
      rw [hy] at SYq
      obtain ⟨gs, hgs0, hgs, hgc, cst, hgd⟩ := HR0.out ky hky'
      have ky0 : (0 : Int) ≤ (ky : Int) := by omega
      have ky1 : (ky : Int) < (x0.l.length : Int) := by omega
      have HCS : Hid (∀ W, Below w.heap.size w W → W.cell? ⟨gs, ky * 3 + 1, none⟩ = some (.int .i64 (x0.l[ky]).start)) := Lib.hid (fun W hb => (hb.cell (p := ⟨gs, _, none⟩) hgs).trans cst)
      generalize (x0.l[ky]).start = st at *
      have u : IntKind.i64.wrap (b0 + st) = b0 + st := IntWalk.i64_in _ (by omega)
      obtain ⟨V, hV⟩ : ∃ V, funZ [x0, x1] [b0, b1] E a = V := ⟨_, rfl⟩
      rw [hV] at HVV ⊢
      have HU := Lib.hid u
      clear hy9 hbg9 hs09 hs19 hiff9 hbg hy hgc hgd HV hV BG SY0 SY1 HS0 cst hgs u hky' hky
      obtain ⟨x0s, x0l, x0a, x0c⟩ := x0
      obtain ⟨x1s, x1l, x1a, x1c⟩ := x1
      dsimp only at *
      subst hgs0
      have u := HU.out
      go_enter Try.func11, Try.ntmps11
      go_wp2_with fail
      refine (LO.out _ TB.out).mono ?_
      rintro e w1 ⟨rfl, bb1⟩
      have tz : (w.alloc (.cells #[.slice (some ⟨g, 0, none⟩) 2 c0, .slice (some ⟨k, 0, none⟩) 2 c1, .slice a2 E.length c2] 33)).heap.size = w.heap.size + 1 := by simp
      have bb1 : Below (w.alloc (.cells #[.slice (some ⟨g, 0, none⟩) 2 c0, .slice (some ⟨k, 0, none⟩) 2 c1, .slice a2 E.length c2] 33)).heap.size (w.alloc (.cells #[.slice (some ⟨g, 0, none⟩) 2 c0, .slice (some ⟨k, 0, none⟩) 2 c1, .slice a2 E.length c2] 33)) w1 := bb1
      rw [tz] at bb1
      have B1 := Lib.hid bb1
      obtain ⟨⟨e0, e1, e2⟩, HBW⟩ := HC.out w1 bb1
      obtain ⟨⟨i0, i1, i2, i3⟩, p0, p1⟩ := HX.out w1 HBW
      have HBW := Lib.hid HBW
      have z1 : w.heap.size + 1 ≤ w1.heap.size := by have := bb1.size; omega
      clear bb1 tz
      go_wp2_with fail
      refine (SYq.out _ (HR0.out.below HBW.out)).mono ?_
      rintro e w2 ⟨rfl, b2⟩
      have B2 : Hid (Below (w.heap.size + 1) (w.alloc (.cells #[.slice (some ⟨g, 0, none⟩) 2 c0, .slice (some ⟨k, 0, none⟩) 2 c1, .slice a2 E.length c2] 33)) w2) := Lib.hid (B1.out.trans (b2.mono (by omega)))
      clear b2 e0 e1 e2 i0 i1 i2 i3 p0 p1 HBW
      obtain ⟨⟨e0, e1, e2⟩, HBW⟩ := HC.out w2 B2.out
      obtain ⟨⟨i0, i1, i2, i3⟩, p0, p1⟩ := HX.out w2 HBW
      have cst := HCS.out w2 HBW
      have HBW := Lib.hid HBW
      go_wp2_with fail
      go_quiet (fail)
      go_wp2_with fail
      have B3 : Hid (Below (w.heap.size + 1) (w.alloc (.cells #[.slice (some ⟨g, 0, none⟩) 2 c0, .slice (some ⟨k, 0, none⟩) 2 c1, .slice a2 E.length c2] 33)) (w2.drewN 0)) := B2
      obtain ⟨v, hvv⟩ : ∃ v, b0 + st = v := ⟨_, rfl⟩
      rw [hvv] at HVV ⊢
      clear e0 e1 e2 i0 i1 i2 i3 p0 p1 cst HBW hvv u hs0 hs1 B1 LO SYq HU HCS
      go_loopw [4, 9] (fun _ i wr => ∃ q : Nat, q ≤ E.length ∧ i = .int .i64 (q : Int) ∧ Hid (idxF v q (E.drop q) = V) ∧ Hid (Below (w.heap.size + 1) (w.alloc (.cells #[.slice (some ⟨g, 0, none⟩) 2 c0, .slice (some ⟨k, 0, none⟩) 2 c1, .slice a2 E.length c2] 33)) wr)) (fun _ i _ => E.length - (RowKit.intOf i).toNat)
      case atStart => exact ⟨0, Nat.zero_le _, rfl, Lib.hid HVV.out.symm, Lib.hid (drewN_b B2.out _)⟩
      case round =>
        obtain ⟨q, hq, rfl, HEQ, HBr⟩ := hrel
        obtain ⟨⟨e0, e1, e2⟩, HBW⟩ := HC.out wr HBr.out
        have HBW := Lib.hid HBW
        by_cases hlt : q < E.length
        · obtain ⟨ge, hge0, hge, cE⟩ := (HE.out.below HBW.out) q hlt
          have HAT := Lib.hid (idxF_at v E q hlt)
          subst hge0
          have k0 : (0 : Int) ≤ (q : Int) := by omega
          have k1 : (q : Int) < (E.length : Int) := by omega
          generalize E[q] = x at *
          by_cases hx : x = v
          · have HN : Hid ((q : Int) = V) := Lib.hid (by have h := HAT.out; rw [if_pos hx] at h; exact h.symm.trans HEQ.out)
            have hbe : (x == v) = true := beq_iff_eq.2 hx
            clear HAT
            go_wp2
            go_ret
            exact ⟨by rw [← HN.out]; rfl, HBW.out⟩
          · have HN : Hid (idxF v (q + 1) (E.drop (q + 1)) = V) := Lib.hid (by have h := HAT.out; rw [if_neg hx] at h; exact h.symm.trans HEQ.out)
            have hbe : (x == v) = false := beq_eq_false_iff_ne.2 hx
            clear HAT
            go_wp2
            go_roundw
            case rel => exact ⟨q + 1, by omega, by go_num, HN, HBr⟩
            case measure => simp [RowKit.intOf]; omega
        · have HN : Hid (-1 = V) := Lib.hid (by rw [← HEQ.out, idxF_out _ _ _ (by omega)])
          have k1 : ¬ (q : Int) < (E.length : Int) := by omega
          go_wp2
          go_ret
          exact ⟨by rw [← HN.out]; rfl, HBW.out⟩
    · obtain ⟨_, ky, hky, hy9, hbg9, hs09, hs19, hiff9⟩ := BG.out 1 po rfl (by omega)
      have hy : symZ x1.l po = (ky : Int) := hy9
      have hky' : ky < x1.l.length := hky
      have hbg : begZ x1.l po = (x1.l[ky]).start := hbg9
      have hs0 : 0 ≤ (x1.l[ky]).start := hs09
      have hs1 : (x1.l[ky]).start ≤ 1000000 := hs19
      have HVV : Hid (funZ [x0, x1] [b0, b1] E a = idxF (b1 + (x1.l[ky]).start) 0 E) := Lib.hid (by rw [HV.out]; dsimp only; rw [if_neg (by omega), HS0.out.2, hbg]; rfl)
      have SYq := Lib.hid (fun W h => SY1.out W po h)
      rw [hy] at SYq
      obtain ⟨gs, hgs0, hgs, hgc, cst, hgd⟩ := HR1.out ky hky'
      have ky0 : (0 : Int) ≤ (ky : Int) := by omega
      have ky1 : (ky : Int) < (x1.l.length : Int) := by omega
      have HCS : Hid (∀ W, Below w.heap.size w W → W.cell? ⟨gs, ky * 3 + 1, none⟩ = some (.int .i64 (x1.l[ky]).start)) := Lib.hid (fun W hb => (hb.cell (p := ⟨gs, _, none⟩) hgs).trans cst)
      generalize (x1.l[ky]).start = st at *
      have u : IntKind.i64.wrap (b1 + st) = b1 + st := IntWalk.i64_in _ (by omega)
      obtain ⟨V, hV⟩ : ∃ V, funZ [x0, x1] [b0, b1] E a = V := ⟨_, rfl⟩
      rw [hV] at HVV ⊢
      have HU := Lib.hid u
      clear hy9 hbg9 hs09 hs19 hiff9 hbg hy hgc hgd HV hV BG SY0 SY1 HS0 cst hgs u hky' hky
      obtain ⟨x0s, x0l, x0a, x0c⟩ := x0
      obtain ⟨x1s, x1l, x1a, x1c⟩ := x1
      dsimp only at *
      subst hgs0
      have u := HU.out
      go_enter Try.func11, Try.ntmps11
      go_wp2_with fail
      refine (LO.out _ TB.out).mono ?_
      rintro e w1 ⟨rfl, bb1⟩
      have tz : (w.alloc (.cells #[.slice (some ⟨g, 0, none⟩) 2 c0, .slice (some ⟨k, 0, none⟩) 2 c1, .slice a2 E.length c2] 33)).heap.size = w.heap.size + 1 := by simp
      have bb1 : Below (w.alloc (.cells #[.slice (some ⟨g, 0, none⟩) 2 c0, .slice (some ⟨k, 0, none⟩) 2 c1, .slice a2 E.length c2] 33)).heap.size (w.alloc (.cells #[.slice (some ⟨g, 0, none⟩) 2 c0, .slice (some ⟨k, 0, none⟩) 2 c1, .slice a2 E.length c2] 33)) w1 := bb1
      rw [tz] at bb1
      have B1 := Lib.hid bb1
      obtain ⟨⟨e0, e1, e2⟩, HBW⟩ := HC.out w1 bb1
      obtain ⟨⟨i0, i1, i2, i3⟩, p0, p1⟩ := HX.out w1 HBW
      have HBW := Lib.hid HBW
      have z1 : w.heap.size + 1 ≤ w1.heap.size := by have := bb1.size; omega
      clear bb1 tz
      go_wp2_with fail
      refine (SYq.out _ (HR1.out.below HBW.out)).mono ?_
      rintro e w2 ⟨rfl, b2⟩
      have B2 : Hid (Below (w.heap.size + 1) (w.alloc (.cells #[.slice (some ⟨g, 0, none⟩) 2 c0, .slice (some ⟨k, 0, none⟩) 2 c1, .slice a2 E.length c2] 33)) w2) := Lib.hid (B1.out.trans (b2.mono (by omega)))
      clear b2 e0 e1 e2 i0 i1 i2 i3 p0 p1 HBW
      obtain ⟨⟨e0, e1, e2⟩, HBW⟩ := HC.out w2 B2.out
      obtain ⟨⟨i0, i1, i2, i3⟩, p0, p1⟩ := HX.out w2 HBW
      have cst := HCS.out w2 HBW
      have HBW := Lib.hid HBW
      go_wp2_with fail
      go_quiet (fail)
      go_wp2_with fail
      have B3 : Hid (Below (w.heap.size + 1) (w.alloc (.cells #[.slice (some ⟨g, 0, none⟩) 2 c0, .slice (some ⟨k, 0, none⟩) 2 c1, .slice a2 E.length c2] 33)) (w2.drewN 0)) := B2
      obtain ⟨v, hvv⟩ : ∃ v, b1 + st = v := ⟨_, rfl⟩
      rw [hvv] at HVV ⊢
      clear e0 e1 e2 i0 i1 i2 i3 p0 p1 cst HBW hvv u hs0 hs1 B1 LO SYq HU HCS
      go_loopw [4, 9] (fun _ i wr => ∃ q : Nat, q ≤ E.length ∧ i = .int .i64 (q : Int) ∧ Hid (idxF v q (E.drop q) = V) ∧ Hid (Below (w.heap.size + 1) (w.alloc (.cells #[.slice (some ⟨g, 0, none⟩) 2 c0, .slice (some ⟨k, 0, none⟩) 2 c1, .slice a2 E.length c2] 33)) wr)) (fun _ i _ => E.length - (RowKit.intOf i).toNat)
      case atStart => exact ⟨0, Nat.zero_le _, rfl, Lib.hid HVV.out.symm, Lib.hid (drewN_b B2.out _)⟩
      case round =>
        obtain ⟨q, hq, rfl, HEQ, HBr⟩ := hrel
        obtain ⟨⟨e0, e1, e2⟩, HBW⟩ := HC.out wr HBr.out
        have HBW := Lib.hid HBW
        by_cases hlt : q < E.length
        · obtain ⟨ge, hge0, hge, cE⟩ := (HE.out.below HBW.out) q hlt
          have HAT := Lib.hid (idxF_at v E q hlt)
          subst hge0
          have k0 : (0 : Int) ≤ (q : Int) := by omega
          have k1 : (q : Int) < (E.length : Int) := by omega
          generalize E[q] = x at *
          by_cases hx : x = v
          · have HN : Hid ((q : Int) = V) := Lib.hid (by have h := HAT.out; rw [if_pos hx] at h; exact h.symm.trans HEQ.out)
            have hbe : (x == v) = true := beq_iff_eq.2 hx
            clear HAT
            go_wp2
            go_ret
            exact ⟨by rw [← HN.out]; rfl, HBW.out⟩
          · have HN : Hid (idxF v (q + 1) (E.drop (q + 1)) = V) := Lib.hid (by have h := HAT.out; rw [if_neg hx] at h; exact h.symm.trans HEQ.out)
            have hbe : (x == v) = false := beq_eq_false_iff_ne.2 hx
            clear HAT
            go_wp2
            go_roundw
            case rel => exact ⟨q + 1, by omega, by go_num, HN, HBr⟩
            case measure => simp [RowKit.intOf]; omega
        · have HN : Hid (-1 = V) := Lib.hid (by rw [← HEQ.out, idxF_out _ _ _ (by omega)])
          have k1 : ¬ (q : Int) < (E.length : Int) := by omega
          go_wp2
          go_ret
          exact ⟨by rw [← HN.out]; rfl, HBW.out⟩
    · clear BG SY0 SY1 HS0
      go_enter Try.func11, Try.ntmps11
      go_wp2_with fail
      refine (LO.out _ TB.out).mono ?_
      rintro e w1 ⟨rfl, bb1⟩
      have HB1 : Hid (Below w.heap.size w w1) := Lib.hid (TB.out.trans (bb1.mono (by simp)))
      clear bb1
      go_wp2
      go_ret
      exact ⟨by rw [HV.out]; rfl, HB1.out⟩

set_option maxRecDepth 100000 in
set_option maxHeartbeats 4000000 in
/-- The closure: is an entry where the symbol begins? -/
theorem i_isAt (x0 x1 : ImA) (b0 b1 e i st v : Int) (a0 a1 a2 : Option Addr) (c0 c1 c2 n2 c d : Nat) (w : World) (hI : ReadIms w a0 [x0, x1]) (hB : ReadI w a1 [b0, b1]) (hc : SpCells w c (.slice a0 2 c0) (.slice a1 2 c1) (.slice a2 n2 c2)) (hcl : c < w.heap.size) (hd0 : w.cell? ⟨d, 0, none⟩ = some (.int .i64 i)) (hd1 : w.cell? ⟨d, 1, none⟩ = some (.int .i64 st)) (hdl : d < w.heap.size) (l0 : 1 ≤ b0) (u0 : b0 ≤ 1000000) (l1 : 1 ≤ b1) (u1 : b1 ≤ 1000000) (z0 : x0.s.size ≤ 1048576) (z1 : x1.s.size ≤ 1048576) (hen : entB x0 x1 b0 b1 e = true) (hv : spA x0 x1 b0 b1 e = (i, st) ↔ e = v) :
    Calls Try.prog 41 #[.int .i64 e, .pointer (some ⟨c, 0, none⟩), .pointer (some ⟨d, 0, none⟩)] w fun ee w' => ee = .returned (.bool (decide (e = v))) ∧ Below w.heap.size w w' := by
  have SO := Lib.hid (fun W (hb : Below w.heap.size w W) => i_spot x0 x1 b0 b1 e a0 a1 a2 c0 c1 c2 n2 W (hI.below hb) (hB.below hb) l0 u0 l1 u1 z0 z1)
  have HC := Lib.hid (fun W (hb : Below w.heap.size w W) => hc.below hcl hb)
  have HD : Hid (∀ W, Below w.heap.size w W → W.cell? ⟨d, 0, none⟩ = some (.int .i64 i) ∧ W.cell? ⟨d, 1, none⟩ = some (.int .i64 st)) := Lib.hid (fun W hb => ⟨(hb.cell (p := ⟨d, 0, none⟩) hdl).trans hd0, (hb.cell (p := ⟨d, 1, none⟩) hdl).trans hd1⟩)
  obtain ⟨⟨pi, po⟩, hpp⟩ : ∃ p, spA x0 x1 b0 b1 e = p := ⟨_, rfl⟩
  have hpi : ¬ pi < 0 := fun hh => by
    unfold entB at hen
    rw [hpp, decide_eq_true hh] at hen
    cases hen
  rw [hpp] at SO hv
  have HV : Hid (decide (e = v) = (decide (pi = i) && decide (po = st))) := Lib.hid (by
    rw [← Bool.decide_and]
    exact decide_eq_decide.2 (hv.symm.trans (by rw [Prod.mk.injEq])))
  have SOV : Hid (∀ W, Below w.heap.size w W → Calls Try.prog 36 #[.agg #[.slice a0 2 c0, .slice a1 2 c1, .slice a2 n2 c2], .int .i64 e] W fun e w' => e = .returned (.tuple #[.agg #[.int .i64 pi, .int .i64 po], .bool true]) ∧ Below W.heap.size W w') := Lib.hid (fun W hb => by have h := SO.out W hb; rw [spotV_yes hpi] at h; exact h)
  obtain ⟨e0, e1, e2⟩ := hc
  clear hI hB hen hv hpp SO hd0 hd1 hpi
  go_enter Try.func41, Try.ntmps41
  go_wp2_with fail
  refine (SOV.out _ (Below.refl _ _)).mono ?_
  rintro e w1 ⟨rfl, b1⟩
  have HB1 := Lib.hid b1
  obtain ⟨e3, e4, e5⟩ := HC.out _ b1
  clear b1 e0 e1 e2
  obtain ⟨W1, hW1⟩ : ∃ W, w1.alloc (.cells #[.int .i64 pi, .int .i64 po] 67) = W := ⟨_, rfl⟩
  have B2 : Hid (Below w.heap.size w W1) := Lib.hid (hW1 ▸ HB1.out.alloc HB1.out.size _)
  have P2 : Hid (W1.heap[w1.heap.size]? = some (.cells #[.int .i64 pi, .int .i64 po] 67 (0, 0))) := Lib.hid (by rw [← hW1]; exact heap_alloc_new w1 _)
  have HW1 := Lib.hid hW1
  clear hW1
  go_upto_region 2 with fail
  rw [HW1.out]
  obtain ⟨d0, d1⟩ := HD.out W1 B2.out
  have q0 := (blk P2.out).1 0 _ rfl
  have q1 := (blk P2.out).1 1 _ rfl
  clear e3 e4 e5
  have hbin := fun W => run_eql_spot pi i po st W
  go_wp2_with fail
  try go_quiet (fail)
  all_goals
    go_wp2
    go_ret
    exact ⟨by rw [HV.out]; rfl, by first | exact B2.out | exact drewN_b B2.out _⟩

set_option maxRecDepth 100000 in
set_option maxHeartbeats 2000000 in
theorem i_ixAt (p : Int → Bool) (a2 : Option Addr) (c2 : Nat) (E : List Int) (c d : Nat) (w : World) (hl : E.length ≤ 1048576) (hE : ReadI w a2 E)
    (hp : ∀ W, Below w.heap.size w W → ∀ e ∈ E, Calls Try.prog 41 #[.int .i64 e, .pointer (some ⟨c, 0, none⟩), .pointer (some ⟨d, 0, none⟩)] W fun ee w' => ee = .returned (.bool (p e)) ∧ Below W.heap.size W w') :
    Calls Try.prog 40 #[.slice a2 E.length c2, .func (.func 41) #[] #[.pointer (some ⟨c, 0, none⟩), .pointer (some ⟨d, 0, none⟩)]] w fun ee w' => ee = .returned (.int .i64 (ixP p 0 E)) ∧ Below w.heap.size w w' := by
  have HR := Lib.hid hE
  have HP := Lib.hid hp
  clear hE hp
  obtain ⟨r, hr⟩ : ∃ r, ixP p 0 E = r := ⟨_, rfl⟩
  rw [hr]
  have HRR : Hid (ixP p 0 (E.drop 0) = r) := Lib.hid hr
  clear hr
  go_enter Try.func40, Try.ntmps40
  go_wp2_with fail
  go_loopw [4, 5, 8] (fun _ _ i wr => ∃ q : Nat, q ≤ E.length ∧ i = .int .i64 (q : Int) ∧ Hid (ixP p q (E.drop q) = r) ∧ Below w.heap.size w wr) (fun _ _ i _ => E.length - (RowKit.intOf i).toNat)
  case atStart => exact ⟨0, Nat.zero_le _, rfl, HRR, Below.refl _ _⟩
  case round =>
    obtain ⟨q, hq, rfl, HE, hbel⟩ := hrel
    have HB := Lib.hid hbel
    have hB := hbel.size
    by_cases hlt : q < E.length
    · obtain ⟨g, rfl, hg, cE⟩ := (HR.out.below hbel) q hlt
      have HY := Lib.hid (ixP_yes p E q hlt)
      have HNO := Lib.hid (ixP_no p E q hlt)
      have HF := Lib.hid (HP.out wr hbel _ (List.getElem_mem hlt))
      have k0 : (0 : Int) ≤ (q : Int) := by omega
      have k1 : (q : Int) < (E.length : Int) := by omega
      generalize E[q] = x at *
      clear hbel
      cases hb : p x with
      | true =>
        have HN := Lib.hid ((HY.out hb).symm.trans HE.out)
        rw [hb] at HF
        clear HY HNO hb
        go_wp2_with fail
        refine HF.out.mono ?_
        rintro e w1 ⟨rfl, b1⟩
        have HB1 : Hid (Below w.heap.size w w1) := Lib.hid (HB.out.trans (b1.mono hB))
        clear b1 cE
        go_wp2
        go_ret
        exact ⟨by rw [← HN.out]; rfl, HB1.out⟩
      | false =>
        have HN := Lib.hid ((HNO.out hb).symm.trans HE.out)
        rw [hb] at HF
        clear HY HNO hb
        go_wp2_with fail
        refine HF.out.mono ?_
        rintro e w1 ⟨rfl, b1⟩
        have HB1 : Hid (Below w.heap.size w w1) := Lib.hid (HB.out.trans (b1.mono hB))
        clear b1 cE
        go_wp2
        go_roundw
        case rel => exact ⟨q + 1, by omega, by go_num, HN, HB1.out⟩
        case measure => simp [RowKit.intOf]; omega
    · have hqq : q = E.length := by omega
      subst hqq
      have HN : Hid (-1 = r) := Lib.hid (by rw [← HE.out, ixP_out _ _ _ (by omega)])
      clear hbel
      go_wp2
      go_ret
      exact ⟨by rw [← HN.out]; rfl, HB.out⟩

set_option maxRecDepth 100000 in
set_option maxHeartbeats 4000000 in
theorem i_functionAt (x0 x1 : ImA) (b0 b1 a : Int) (E : List Int) (a0 a1 a2 : Option Addr) (c0 c1 c2 : Nat) (w : World) (hI : ReadIms w a0 [x0, x1]) (hB : ReadI w a1 [b0, b1]) (hE : ReadI w a2 E) (hl : E.length ≤ 1048576) (SP : SpIs x0 x1 b0 b1 E) (hs0 : SmallI x0) (hs1 : SmallI x1) (V : Int)
    (hV : V = if (spA x0 x1 b0 b1 a).1 < 0 then -1 else idxF ((if (spA x0 x1 b0 b1 a).1 = 0 then b0 else b1) + begZ (symsOf x0 x1 (spA x0 x1 b0 b1 a).1) (spA x0 x1 b0 b1 a).2) 0 E) :
    Calls Try.prog 25 #[.agg #[.slice a0 2 c0, .slice a1 2 c1, .slice a2 E.length c2], .int .i64 a] w fun e w' => e = .returned (.int .i64 V) ∧ Below w.heap.size w w' := by
  have HV := Lib.hid hV
  have TB := Lib.hid ((Below.refl w.heap.size w).alloc (Nat.le_refl _) (.cells #[.slice a0 2 c0, .slice a1 2 c1, .slice a2 E.length c2] 33))
  have HC : Hid (∀ W, Below (w.heap.size + 1) (w.alloc (.cells #[.slice a0 2 c0, .slice a1 2 c1, .slice a2 E.length c2] 33)) W → SpCells W w.heap.size (.slice a0 2 c0) (.slice a1 2 c1) (.slice a2 E.length c2) ∧ Below w.heap.size w W) := Lib.hid (fun W hb => by
    have hn := (hb.block w.heap.size (by omega)).trans (heap_alloc_new w _)
    exact ⟨⟨(blk hn).1 0 _ rfl, (blk hn).1 1 _ rfl, (blk hn).1 2 _ rfl⟩, ((Below.refl w.heap.size w).alloc (Nat.le_refl _) _).trans (hb.mono (by omega))⟩)
  have SO := Lib.hid (fun W (hb : Below w.heap.size w W) => i_spot x0 x1 b0 b1 a a0 a1 a2 c0 c1 c2 E.length W (hI.below hb) (hB.below hb) SP.l0 SP.u0 SP.l1 SP.u1 hs0.1 hs1.1)
  have S0 := Lib.hid (fun W (hb : Below w.heap.size w W) po => i_start0 x0 x1 po a0 a1 a2 c0 c1 c2 2 E.length W (hI.below hb) hs0.2.1)
  have S1 := Lib.hid (fun W (hb : Below w.heap.size w W) po => i_start1 x0 x1 po a0 a1 a2 c0 c1 c2 2 E.length W (hI.below hb) hs1.2.1)
  have IXA := Lib.hid (fun (W : World) (hb : Below w.heap.size w W) (c d : Nat) (i st v : Int) (h1 : SpCells W c (.slice a0 2 c0) (.slice a1 2 c1) (.slice a2 E.length c2)) (h2 : c < W.heap.size) (h3 : W.cell? ⟨d, 0, none⟩ = some (.int .i64 i)) (h4 : W.cell? ⟨d, 1, none⟩ = some (.int .i64 st)) (h5 : d < W.heap.size) (h6 : ∀ e, spA x0 x1 b0 b1 e = (i, st) ↔ e = v) =>
    i_ixAt (fun e => decide (e = v)) a2 c2 E c d W hl (hE.below hb) (fun W2 hb2 e he => i_isAt x0 x1 b0 b1 e i st v a0 a1 a2 c0 c1 c2 E.length c d W2 (hI.below (hb.trans (hb2.mono hb.size))) (hB.below (hb.trans (hb2.mono hb.size))) (h1.below h2 hb2) (by have := hb2.size; omega) ((hb2.cell (p := ⟨d, 0, none⟩) h5).trans h3) ((hb2.cell (p := ⟨d, 1, none⟩) h5).trans h4) (by have := hb2.size; omega) SP.l0 SP.u0 SP.l1 SP.u1 hs0.1 hs1.1 (SP.en e he) (h6 e)))
  have BG := Lib.hid (fun i o => @SpIs.beg x0 x1 b0 b1 E SP a i o)
  have HS0 : Hid (symsOf x0 x1 0 = x0.l ∧ symsOf x0 x1 1 = x1.l) := Lib.hid ⟨rfl, rfl⟩
  obtain ⟨pi, po, hpp, hcs⟩ : ∃ pi po, spA x0 x1 b0 b1 a = (pi, po) ∧ (pi = 0 ∨ pi = 1 ∨ (pi = -1 ∧ po = -1)) := by
    have SC := spot_cases b0 x0.s.size b1 x1.s.size a
    change (spA x0 x1 b0 b1 a = _ ∧ _) ∨ (spA x0 x1 b0 b1 a = _ ∧ _) ∨ (spA x0 x1 b0 b1 a = _ ∧ _) at SC
    rcases SC with ⟨h, _⟩ | ⟨h, _⟩ | ⟨h, _⟩
    · exact ⟨_, _, h, .inl rfl⟩
    · exact ⟨_, _, h, .inr (.inl rfl)⟩
    · exact ⟨_, _, h, .inr (.inr ⟨rfl, rfl⟩)⟩
  rw [hpp] at HV SO BG
  clear hI hB hE SP hs0 hs1 hV hpp
  obtain ⟨sp, hsp⟩ : ∃ f, spA x0 x1 b0 b1 = f := ⟨_, rfl⟩
  rw [hsp] at BG IXA
  clear hsp
  rcases hcs with rfl | rfl | ⟨rfl, rfl⟩
  · obtain ⟨_, ky, hky, hy9, hbg9, hs09, hs19, hiff9⟩ := BG.out 0 po rfl (by omega)
    have hy : symZ x0.l po = (ky : Int) := hy9
    have hky' : ky < x0.l.length := hky
    have hbg : begZ x0.l po = (x0.l[ky]).start := hbg9
    have hs0 : 0 ≤ (x0.l[ky]).start := hs09
    have hs1 : (x0.l[ky]).start ≤ 1000000 := hs19
    have hiff : ∀ e, sp e = (0, (x0.l[ky]).start) ↔ e = b0 + (x0.l[ky]).start := hiff9
    have HVV : Hid (V = idxF (b0 + (x0.l[ky]).start) 0 E) := Lib.hid (by rw [HV.out]; dsimp only; rw [if_neg (by omega), HS0.out.1, hbg]; rfl)
    have SQ := Lib.hid (fun W (hb : Below w.heap.size w W) => S0.out W hb po ky hky' hy)
    have IX2 := Lib.hid (fun (W : World) (hb : Below w.heap.size w W) d h1 h2 h3 h4 h5 => IXA.out W hb w.heap.size d 0 ((x0.l[ky]'hky').start) (b0 + (x0.l[ky]'hky').start) h1 h2 h3 h4 h5 hiff)
    have SOV : Hid (∀ W, Below w.heap.size w W → Calls Try.prog 36 #[.agg #[.slice a0 2 c0, .slice a1 2 c1, .slice a2 E.length c2], .int .i64 a] W fun e w' => e = .returned (.tuple #[.agg #[.int .i64 0, .int .i64 po], .bool true]) ∧ Below W.heap.size W w') := Lib.hid (fun W hb => by have h := SO.out W hb; rw [spotV_yes (show ¬ (0 : Int) < 0 by omega)] at h; exact h)
    generalize (x0.l[ky]).start = st at *
    rw [idx_is, ← HVV.out] at IX2
    clear hy9 hbg9 hs09 hs19 hiff9 hbg hy hky' hky HV HVV BG HS0 SO S0 S1 hiff IXA hs0 hs1
    go_enter Try.func25, Try.ntmps25
    go_wp2_with fail
    refine (SOV.out _ TB.out).mono ?_
    rintro e w1 ⟨rfl, b1⟩
    have tz : (w.alloc (.cells #[.slice a0 2 c0, .slice a1 2 c1, .slice a2 E.length c2] 33)).heap.size = w.heap.size + 1 := by simp
    rw [tz] at b1
    have B1 := Lib.hid b1
    have z1 : w.heap.size + 1 ≤ w1.heap.size := by have := b1.size; omega
    clear b1 tz
    obtain ⟨W1, hW1⟩ : ∃ W, w1.alloc (.cells #[.int .i64 0, .int .i64 po] 67) = W := ⟨_, rfl⟩
    have B2 : Hid (Below (w.heap.size + 1) (w.alloc (.cells #[.slice a0 2 c0, .slice a1 2 c1, .slice a2 E.length c2] 33)) W1) := Lib.hid (hW1 ▸ B1.out.alloc z1 _)
    have P2 : Hid (W1.heap[w1.heap.size]? = some (.cells #[.int .i64 0, .int .i64 po] 67 (0, 0))) := Lib.hid (by rw [← hW1]; exact heap_alloc_new w1 _)
    have HW1 := Lib.hid hW1
    have z2 : w.heap.size + 1 ≤ W1.heap.size := by rw [← hW1]; simp; omega
    clear hW1
    go_upto_region 2 with fail
    rw [HW1.out]
    obtain ⟨⟨e0, e1, e2⟩, HBW⟩ := HC.out W1 B2.out
    have HBW := Lib.hid HBW
    have q0 := (blk P2.out).1 0 _ rfl
    have q1 := (blk P2.out).1 1 _ rfl
    go_wp2_with fail
    refine (SQ.out _ HBW.out).mono ?_
    rintro e w3 ⟨rfl, b3⟩
    have B3 : Hid (Below (w.heap.size + 1) (w.alloc (.cells #[.slice a0 2 c0, .slice a1 2 c1, .slice a2 E.length c2] 33)) w3) := Lib.hid (B2.out.trans (b3.mono z2))
    have z3 : w.heap.size + 1 ≤ w3.heap.size := by have := b3.size; omega
    clear b3 e0 e1 e2 q0 q1 HBW
    obtain ⟨W4, hW4⟩ : ∃ W, w3.alloc (.cells #[.int .i64 0, .int .i64 st] 67) = W := ⟨_, rfl⟩
    have B4 : Hid (Below (w.heap.size + 1) (w.alloc (.cells #[.slice a0 2 c0, .slice a1 2 c1, .slice a2 E.length c2] 33)) W4) := Lib.hid (hW4 ▸ B3.out.alloc z3 _)
    have P4 : Hid (W4.heap[w3.heap.size]? = some (.cells #[.int .i64 0, .int .i64 st] 67 (0, 0))) := Lib.hid (by rw [← hW4]; exact heap_alloc_new w3 _)
    have HW4 := Lib.hid hW4
    have z4 : w.heap.size + 1 ≤ W4.heap.size := by rw [← hW4]; simp; omega
    clear hW4
    go_upto_region 5 with fail
    rw [HW4.out]
    obtain ⟨⟨e0, e1, e2⟩, HBW⟩ := HC.out W4 B4.out
    have HBW := Lib.hid HBW
    have IX3 := Lib.hid (IX2.out W4 HBW.out w3.heap.size ⟨e0, e1, e2⟩ (by omega) ((blk P4.out).1 0 _ rfl) ((blk P4.out).1 1 _ rfl) (blk P4.out).2.2)
    go_wp2_with fail
    refine IX3.out.mono ?_
    rintro e w5 ⟨rfl, b5⟩
    have HB5 : Hid (Below w.heap.size w w5) := Lib.hid (HBW.out.trans (b5.mono (by omega)))
    clear b5
    go_wp2
    go_ret
    exact ⟨rfl, HB5.out⟩
  · obtain ⟨_, ky, hky, hy9, hbg9, hs09, hs19, hiff9⟩ := BG.out 1 po rfl (by omega)
    have hy : symZ x1.l po = (ky : Int) := hy9
    have hky' : ky < x1.l.length := hky
    have hbg : begZ x1.l po = (x1.l[ky]).start := hbg9
    have hs0 : 0 ≤ (x1.l[ky]).start := hs09
    have hs1 : (x1.l[ky]).start ≤ 1000000 := hs19
    have hiff : ∀ e, sp e = (1, (x1.l[ky]).start) ↔ e = b1 + (x1.l[ky]).start := hiff9
    have HVV : Hid (V = idxF (b1 + (x1.l[ky]).start) 0 E) := Lib.hid (by rw [HV.out]; dsimp only; rw [if_neg (by omega), HS0.out.2, hbg]; rfl)
    have SQ := Lib.hid (fun W (hb : Below w.heap.size w W) => S1.out W hb po ky hky' hy)
    have IX2 := Lib.hid (fun (W : World) (hb : Below w.heap.size w W) d h1 h2 h3 h4 h5 => IXA.out W hb w.heap.size d 1 ((x1.l[ky]'hky').start) (b1 + (x1.l[ky]'hky').start) h1 h2 h3 h4 h5 hiff)
    have SOV : Hid (∀ W, Below w.heap.size w W → Calls Try.prog 36 #[.agg #[.slice a0 2 c0, .slice a1 2 c1, .slice a2 E.length c2], .int .i64 a] W fun e w' => e = .returned (.tuple #[.agg #[.int .i64 1, .int .i64 po], .bool true]) ∧ Below W.heap.size W w') := Lib.hid (fun W hb => by have h := SO.out W hb; rw [spotV_yes (show ¬ (1 : Int) < 0 by omega)] at h; exact h)
    generalize (x1.l[ky]).start = st at *
    rw [idx_is, ← HVV.out] at IX2
    clear hy9 hbg9 hs09 hs19 hiff9 hbg hy hky' hky HV HVV BG HS0 SO S0 S1 hiff IXA hs0 hs1
    go_enter Try.func25, Try.ntmps25
    go_wp2_with fail
    refine (SOV.out _ TB.out).mono ?_
    rintro e w1 ⟨rfl, b1⟩
    have tz : (w.alloc (.cells #[.slice a0 2 c0, .slice a1 2 c1, .slice a2 E.length c2] 33)).heap.size = w.heap.size + 1 := by simp
    rw [tz] at b1
    have B1 := Lib.hid b1
    have z1 : w.heap.size + 1 ≤ w1.heap.size := by have := b1.size; omega
    clear b1 tz
    obtain ⟨W1, hW1⟩ : ∃ W, w1.alloc (.cells #[.int .i64 1, .int .i64 po] 67) = W := ⟨_, rfl⟩
    have B2 : Hid (Below (w.heap.size + 1) (w.alloc (.cells #[.slice a0 2 c0, .slice a1 2 c1, .slice a2 E.length c2] 33)) W1) := Lib.hid (hW1 ▸ B1.out.alloc z1 _)
    have P2 : Hid (W1.heap[w1.heap.size]? = some (.cells #[.int .i64 1, .int .i64 po] 67 (0, 0))) := Lib.hid (by rw [← hW1]; exact heap_alloc_new w1 _)
    have HW1 := Lib.hid hW1
    have z2 : w.heap.size + 1 ≤ W1.heap.size := by rw [← hW1]; simp; omega
    clear hW1
    go_upto_region 2 with fail
    rw [HW1.out]
    obtain ⟨⟨e0, e1, e2⟩, HBW⟩ := HC.out W1 B2.out
    have HBW := Lib.hid HBW
    have q0 := (blk P2.out).1 0 _ rfl
    have q1 := (blk P2.out).1 1 _ rfl
    go_wp2_with fail
    refine (SQ.out _ HBW.out).mono ?_
    rintro e w3 ⟨rfl, b3⟩
    have B3 : Hid (Below (w.heap.size + 1) (w.alloc (.cells #[.slice a0 2 c0, .slice a1 2 c1, .slice a2 E.length c2] 33)) w3) := Lib.hid (B2.out.trans (b3.mono z2))
    have z3 : w.heap.size + 1 ≤ w3.heap.size := by have := b3.size; omega
    clear b3 e0 e1 e2 q0 q1 HBW
    obtain ⟨W4, hW4⟩ : ∃ W, w3.alloc (.cells #[.int .i64 1, .int .i64 st] 67) = W := ⟨_, rfl⟩
    have B4 : Hid (Below (w.heap.size + 1) (w.alloc (.cells #[.slice a0 2 c0, .slice a1 2 c1, .slice a2 E.length c2] 33)) W4) := Lib.hid (hW4 ▸ B3.out.alloc z3 _)
    have P4 : Hid (W4.heap[w3.heap.size]? = some (.cells #[.int .i64 1, .int .i64 st] 67 (0, 0))) := Lib.hid (by rw [← hW4]; exact heap_alloc_new w3 _)
    have HW4 := Lib.hid hW4
    have z4 : w.heap.size + 1 ≤ W4.heap.size := by rw [← hW4]; simp; omega
    clear hW4
    go_upto_region 5 with fail
    rw [HW4.out]
    obtain ⟨⟨e0, e1, e2⟩, HBW⟩ := HC.out W4 B4.out
    have HBW := Lib.hid HBW
    have IX3 := Lib.hid (IX2.out W4 HBW.out w3.heap.size ⟨e0, e1, e2⟩ (by omega) ((blk P4.out).1 0 _ rfl) ((blk P4.out).1 1 _ rfl) (blk P4.out).2.2)
    go_wp2_with fail
    refine IX3.out.mono ?_
    rintro e w5 ⟨rfl, b5⟩
    have HB5 : Hid (Below w.heap.size w w5) := Lib.hid (HBW.out.trans (b5.mono (by omega)))
    clear b5
    go_wp2
    go_ret
    exact ⟨rfl, HB5.out⟩
  · have SOV : Hid (∀ W, Below w.heap.size w W → Calls Try.prog 36 #[.agg #[.slice a0 2 c0, .slice a1 2 c1, .slice a2 E.length c2], .int .i64 a] W fun e w' => e = .returned (.tuple #[.agg #[.int .i64 0, .int .i64 0], .bool false]) ∧ Below W.heap.size W w') := Lib.hid (fun W hb => by have h := SO.out W hb; rw [spotV_no (show (-1 : Int) < 0 by omega)] at h; exact h)
    have HV2 : Hid (V = -1) := Lib.hid (by rw [HV.out]; rfl)
    clear BG HS0 SO S0 S1 IXA HV
    go_enter Try.func25, Try.ntmps25
    go_wp2_with fail
    refine (SOV.out _ TB.out).mono ?_
    rintro e w1 ⟨rfl, b1⟩
    have HB1 : Hid (Below w.heap.size w w1) := Lib.hid (TB.out.trans (b1.mono (by simp)))
    have HB3 : Hid (Below w.heap.size w (w1.alloc (.cells #[.int .i64 0, .int .i64 0] 67))) := Lib.hid (HB1.out.alloc HB1.out.size _)
    clear b1
    go_wp2
    go_ret
    exact ⟨by rw [HV2.out]; rfl, HB3.out⟩

set_option maxRecDepth 100000 in
set_option maxHeartbeats 2000000 in
theorem i_functionAtS (I : List ImA) (B E : List Int) (a : Int) (a0 a1 a2 : Option Addr) (c0 c1 c2 : Nat) (w : World) (hI : ReadIms w a0 I) (hB : ReadI w a1 B) (hE : ReadI w a2 E) (hs : SmlI I B E) :
    Calls Try.prog 12 #[.agg #[.slice a0 I.length c0, .slice a1 B.length c1, .slice a2 E.length c2], .int .i64 a] w fun e w' => e = .returned (.int .i64 (funZ I B E a)) ∧ Below w.heap.size w w' := by
  have TB := Lib.hid ((Below.refl w.heap.size w).alloc (Nat.le_refl _) (.cells #[.slice a0 I.length c0, .slice a1 B.length c1, .slice a2 E.length c2] 33))
  have T0 := Lib.hid (heap_alloc_new w (.cells #[.slice a0 I.length c0, .slice a1 B.length c1, .slice a2 E.length c2] 33))
  have SO := Lib.hid (fun W (hb : Below w.heap.size w W) => i_spaceOk I B E a0 a1 a2 c0 c1 c2 W (hI.below hb) (hB.below hb) (hE.below hb) hs)
  cases hv : spB I B E with
  | false =>
    have HV := Lib.hid (funZ_no (a := a) hv)
    rw [hv] at SO
    clear hv hI hB hE hs
    go_enter Try.func12, Try.ntmps12
    go_wp2_with fail
    refine (SO.out _ TB.out).mono ?_
    rintro e w1 ⟨rfl, b1⟩
    have HB1 : Hid (Below w.heap.size w w1) := Lib.hid (TB.out.trans (b1.mono (by simp)))
    clear b1
    go_wp2
    go_ret
    exact ⟨by rw [HV.out]; rfl, HB1.out⟩
  | true =>
    obtain ⟨x0, x1, b0, b1, rfl, rfl, h3, h4, SP⟩ := spB_is hv
    rw [hv] at SO
    have FA := Lib.hid (fun W (hb : Below w.heap.size w W) => i_functionAt x0 x1 b0 b1 a E a0 a1 a2 c0 c1 c2 W (hI.below hb) (hB.below hb) (hE.below hb) hs.2.2.1 SP (hs.2.2.2.1 x0 (by simp)) (hs.2.2.2.1 x1 (by simp)) _ (funZ_yes (a := a) hv))
    obtain ⟨V, hV⟩ : ∃ V, funZ [x0, x1] [b0, b1] E a = V := ⟨_, rfl⟩
    rw [hV] at FA ⊢
    clear hv hI hB hE hs SP hV
    go_enter Try.func12, Try.ntmps12
    go_wp2_with fail
    refine (SO.out _ TB.out).mono ?_
    rintro e w1 ⟨rfl, b1⟩
    have HB1 : Hid (Below w.heap.size w w1) := Lib.hid (TB.out.trans (b1.mono (by simp)))
    have z1 := b1.size
    have P1 := Lib.hid ((b1.block _ (by simp)).trans T0.out)
    obtain ⟨e0, e1, e2⟩ : w1.cell? ⟨w.heap.size, 0, none⟩ = some (.slice a0 2 c0) ∧ w1.cell? ⟨w.heap.size, 1, none⟩ = some (.slice a1 2 c1) ∧ w1.cell? ⟨w.heap.size, 2, none⟩ = some (.slice a2 E.length c2) := ⟨(blk P1.out).1 0 _ rfl, (blk P1.out).1 1 _ rfl, (blk P1.out).1 2 _ rfl⟩
    clear b1
    go_wp2_with fail
    refine (FA.out _ HB1.out).mono ?_
    rintro e w2 ⟨rfl, b2⟩
    have HB2 : Hid (Below w.heap.size w w2) := Lib.hid (HB1.out.trans (b2.mono (by simp at z1; omega)))
    clear b2
    go_wp2
    go_ret
    exact ⟨rfl, HB2.out⟩
end Go.Proofs.Ytcflojdkaddemab
