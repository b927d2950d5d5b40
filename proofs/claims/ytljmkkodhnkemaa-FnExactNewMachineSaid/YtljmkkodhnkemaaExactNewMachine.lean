/- NewMachine answers as its model for every space, and what it makes is its own. No condition. -/
import Derived.Test.YtljmkkodhnkemaaMchNew
import Derived.Test.YtljmkkodhnkemaaMchMk
import Derived.Test.YtljmkkodhnkemaaSpcMkA
import Derived.Test.YtljmkkodhnkemaaSpcLaw
import Derived.Test.YtljmkkodhnkemaaSpcArg
import Derived.Deep.RegionHeld3
import Derived.Lib.SmallJoins
import Derived.ProofKit
import Derived.OpenShut
import Derived.ShutString
import Derived.ChangeOld
import Derived.Below
import Derived.Carry
namespace Go.Proofs.Ytljmkkodhnkemaa.fnExactNewMachine
open Go.ChangeShapes Go.WideShapes Go.ChangeAt Go.RowKit Go.Lib
open Go.ChangeMaps (open_string shut_string)

theorem keep3s {w w' : World} {b : Nat} {x0 x1 x2 : Value} (hb : Below w.heap.size w w') (hlt : b < w.heap.size) (h : w.cell? ⟨b, 0, none⟩ = some x0 ∧ w.cell? ⟨b, 1, none⟩ = some x1 ∧ w.cell? ⟨b, 2, none⟩ = some x2) : w'.cell? ⟨b, 0, none⟩ = some x0 ∧ w'.cell? ⟨b, 1, none⟩ = some x1 ∧ w'.cell? ⟨b, 2, none⟩ = some x2 :=
  ⟨(hb.cell (p := ⟨b, 0, none⟩) hlt).trans h.1, (hb.cell (p := ⟨b, 1, none⟩) hlt).trans h.2.1, (hb.cell (p := ⟨b, 2, none⟩) hlt).trans h.2.2⟩
theorem owns_if {B T n s : Nat} {w w' : World} {v : Value} {xs : List Value} (h : w.ownsRow B T s v n xs) (hk : ∀ g, v.ownBlock = some g → w'.heap[g]? = w.heap[g]?) : w'.ownsRow B T s v n xs := by
  refine ⟨h.1, ?_⟩
  rcases h.2 with hn | ⟨g, cap, cur, rfl, hb, hgg, rest⟩
  · exact .inl hn
  · refine .inr ⟨g, cap, cur, rfl, hb, ?_, rest⟩
    rw [hk g (by simp [Value.ownBlock])]
    exact hgg
/-- What NewMachine gives, with a letter. -/
def NmL (m : McL) (b : Bool) (w : World) (e : Ending) (w' : World) : Prop := ∃ v1 v2, e = .returned (.tuple #[mcA m v1 v2, .bool b]) ∧ w'.ownsRow w.heap.size 3 1 v1 m.st.length (intV m.st) ∧ w'.ownsRow w.heap.size 3 1 v2 m.out.length (intV m.out) ∧ Ap v1 v2 ∧ Below w.heap.size w w'
theorem nmL {m : McL} {b : Bool} {E : List Int} (h : newZ b E = m) (w : World) (e : Ending) (w' : World) : NmR b E w e w' → NmL m b w e w' := by
  subst h
  exact fun h => h
set_option maxRecDepth 100000 in
set_option maxHeartbeats 4000000 in
theorem walk (a0 a1 a2 : Option Addr) (c0 c1 c2 : Nat) (I : List ImA) (B E : List Int) (w : World) (hI : I.length ≤ maxLen) (hB : B.length ≤ maxLen) (hE : E.length ≤ maxLen) (hEb : ∀ e ∈ E, e ≤ 9223372036854775807) (ha : ArgSp w a0 I a1 B a2 E) :
    Calls Try.prog 4 #[.agg #[.slice a0 I.length c0, .slice a1 B.length c1, .slice a2 E.length c2]] w fun e w' => e = .returned (.bool true) ∧ Below w.heap.size w w' := by
  have T0 := Lib.hid (heap_alloc_new w (.cells #[.slice a0 I.length c0, .slice a1 B.length c1, .slice a2 E.length c2] 33))
  have TB := Lib.hid ((Below.refl w.heap.size w).alloc (Nat.le_refl _) (.cells #[.slice a0 I.length c0, .slice a1 B.length c1, .slice a2 E.length c2] 33))
  have HA := Lib.hid ha
  have SZ := Lib.hid (l_szSpaceN a0 a1 a2 c0 c1 c2 I B E 1048576 _ hI hB hE (ha.below TB.out) (by omega) (by omega))
  have HEB := Lib.hid hEb
  clear ha hEb
  go_enter Try.func4, Try.ntmps4
  go_wp2_with fail
  refine SZ.out.mono ?_
  rintro e w1 ⟨r, rfl, b1, hr⟩
  have tz : (w.alloc (.cells #[.slice a0 I.length c0, .slice a1 B.length c1, .slice a2 E.length c2] 33)).heap.size = w.heap.size + 1 := by simp
  have z1 := b1.size
  rw [tz] at z1 b1
  have P0 := Lib.hid ((b1.block _ (by omega)).trans T0.out)
  have HB1 : Hid (Below w.heap.size w w1) := Lib.hid (TB.out.trans (b1.mono (by omega)))
  clear tz b1 T0 TB SZ
  rcases hr with rfl | ⟨hr0, hrs, hsI⟩
  · go_wp2
    go_ret
    exact ⟨rfl, HB1.out⟩
  have HSI := Lib.hid hsI
  have q1 : I.length ≤ 1048576 := by omega
  have q2 : B.length ≤ 1048576 := by omega
  have q3 : E.length ≤ 1048576 := by omega
  have q4 : I.length + sumI I ≤ 1048576 := by omega
  have HQ2 := Lib.hid q2
  have HQ3 := Lib.hid q3
  have hd : decide (r < 0) = false := by simp; omega
  clear hsI hrs
  have TA := Lib.hid (fun (W : World) (hb : Below w.heap.size w W) => l_toSpace a0 a1 a2 c0 c1 c2 I B E W q1 q2 q3 (HA.out.below hb) HSI.out)
  obtain ⟨ps, hps⟩ : ∃ x, psI I = x := ⟨_, rfl⟩
  have SML : Hid (∀ X : List ImA, psI X = ps → SmlI X B E ∧ X.length ≤ 1048576 ∧ X.length + sumI X ≤ 1048576 ∧ ∀ x ∈ X, x.l.length ≤ 1048576) := Lib.hid (fun X hX => by
    have hX' := hX.trans hps.symm
    have hl : X.length = I.length := by have h := congrArg List.length hX'; rwa [psI_len, psI_len] at h
    have hsm := psI_small hX' HSI.out
    exact ⟨⟨by omega, q2, q3, hsm, HEB.out⟩, by omega, by rw [hl, sumI_ps hX']; exact q4, fun x hx => (hsm x hx).2.1⟩)
  rw [hps] at TA
  clear hps
  obtain ⟨res, hres⟩ : ∃ x, spB (canI ps) B E = x := ⟨_, rfl⟩
  have HRES : Hid (∀ X : List ImA, psI X = ps → spB X B E = res) := Lib.hid (fun X hX => by rw [spB_can, hX]; exact hres)
  clear hres
  have NEWL := newZ_len res E
  obtain ⟨m, hm⟩ : ∃ m, newZ res E = m := ⟨_, rfl⟩
  rw [hm] at NEWL
  have NS := Lib.hid (fun (X : List ImA) (a0 a1 a2 : Option Addr) (c0 c1 c2 : Nat) (W : World) (hX : psI X = ps) (hR : ReadSp W a0 X a1 B a2 E) => (s_newMachine X B E a0 a1 a2 c0 c1 c2 W hR.1 hR.2.1 hR.2.2 (SML.out X hX).1).mono (fun e w' h => nmL hm W e w' (by rw [HRES.out X hX] at h; exact h)))
  have NI := Lib.hid (fun (X : List ImA) (a0 a1 a2 : Option Addr) (c0 c1 c2 : Nat) (W : World) (hX : psI X = ps) (hR : ReadSp W a0 X a1 B a2 E) => (i_newMachine X B E a0 a1 a2 c0 c1 c2 W hR.1 hR.2.1 hR.2.2 (SML.out X hX).1).mono (fun e w' h => nmL hm W e w' (by rw [HRES.out X hX] at h; exact h)))
  have EA := Lib.hid (fun (a0 a1 b0 b1 : Option Addr) (c0 c1 d0 d1 : Nat) (W : World) h1 h2 h3 h4 => l_eqMachine m a0 a1 b0 b1 c0 c1 d0 d1 W h1 h2 h3 h4 (by omega) (by rw [NEWL.2]; simp))
  have MK := Lib.hid (fun (a0 a1 : Option Addr) (c0 c1 B hi : Nat) (W : World) O1 O2 hap hB hh g1 g2 => l_markMachine m a0 a1 c0 c1 1 B hi W O1 O2 hap hB hh g1 g2 (by omega) (by rw [NEWL.2]; simp))
  have HM := Lib.hid (fun (a0 a1 : Option Addr) (c0 c1 : Nat) (W : World) r1 r2 => l_heldMachine m a0 a1 c0 c1 1 W r1 r2 (by omega) (by rw [NEWL.2]; simp))
  have eone : ((1 : Nat) : Int) = 1 := rfl
  rw [eone] at MK HM
  clear hm NEWL eone
  obtain ⟨pc, sp, fp, st, out, stt, val⟩ := m
  unfold NmL mcA mcRow at NS NI
  unfold mcA mcRow at EA MK HM
  dsimp only at NS NI EA MK HM
  obtain ⟨sn, hsn⟩ : ∃ x, st.length = x := ⟨_, rfl⟩
  obtain ⟨on, hon⟩ : ∃ x, out.length = x := ⟨_, rfl⟩
  rw [hsn] at NS NI EA MK HM
  rw [hon] at NS NI EA MK HM
  obtain ⟨Q, hQ⟩ : ∃ x, 1 + sn + on = x := ⟨_, rfl⟩
  rw [hQ] at MK HM
  have HSN := Lib.hid hsn
  have HON := Lib.hid hon
  clear hsn hon hQ
  obtain ⟨e0, e1, e2⟩ := cells3s P0.out
  go_wp2_with fail
  refine (TA.out _ HB1.out).mono ?_
  rintro e wa ⟨v0, X, v1, v2, rfl, O0, M0, p0, O1, O2, ba⟩
  obtain ⟨x0, y0, rfl⟩ := owns3_shape O0
  obtain ⟨x1, y1, rfl⟩ := owns_shape O1
  obtain ⟨x2, y2, rfl⟩ := owns_shape O2
  have NS1 := Lib.hid (NS.out X x0 x1 x2 y0 y1 y2 wa p0 (readSp_of O0 M0 O1 O2))
  have za := ba.size
  have Pa := Lib.hid ((ba.block _ (by omega)).trans P0.out)
  have HBa : Hid (Below w.heap.size w wa) := Lib.hid (HB1.out.trans (ba.mono (by omega)))
  clear O0 M0 O1 O2 p0 ba P0 e0 e1 e2 hd NS
  go_wp2_with fail
  refine NS1.out.mono ?_
  rintro e wb ⟨u1, u2, rfl, U1, U2, _, bb⟩
  obtain ⟨g1, k1, rfl⟩ := owns_shape U1
  obtain ⟨g2, k2, rfl⟩ := owns_shape U2
  have zb := bb.size
  have Pb := Lib.hid ((bb.block _ (by omega)).trans Pa.out)
  have HBb : Hid (Below w.heap.size w wb) := Lib.hid (HBa.out.trans (bb.mono (by omega)))
  have RW1 := Lib.hid (readI_of (by rw [← HSN.out] at U1; exact U1))
  have RW2 := Lib.hid (readI_of (by rw [← HON.out] at U2; exact U2))
  clear U1 U2 bb Pa NS1
  have BW := Lib.hid ((Below.refl wb.heap.size wb).alloc (Nat.le_refl _) (.cells #[.int .i64 pc, .int .i64 sp, .int .i64 fp, .slice g1 sn k1, .slice g2 on k2, .int .i64 stt, .int .i64 val] 27))
  have QW := Lib.hid (heap_alloc_new wb (.cells #[.int .i64 pc, .int .i64 sp, .int .i64 fp, .slice g1 sn k1, .slice g2 on k2, .int .i64 stt, .int .i64 val] 27))
  have HB2 : Hid (Below w.heap.size w (wb.alloc (.cells #[.int .i64 pc, .int .i64 sp, .int .i64 fp, .slice g1 sn k1, .slice g2 on k2, .int .i64 stt, .int .i64 val] 27))) := Lib.hid (HBb.out.trans (BW.out.mono (by omega)))
  have P2 := Lib.hid ((BW.out.block _ (by omega)).trans Pb.out)
  have tz : (wb.alloc (.cells #[.int .i64 pc, .int .i64 sp, .int .i64 fp, .slice g1 sn k1, .slice g2 on k2, .int .i64 stt, .int .i64 val] 27)).heap.size = wb.heap.size + 1 := by simp
  obtain ⟨e0, e1, e2⟩ := cells3s P2.out
  go_wp2_with fail
  refine (TA.out _ HB2.out).mono ?_
  rintro e w3 ⟨v0, X, v1, v2, rfl, O0, M0, p0, O1, O2, b3⟩
  obtain ⟨x0, y0, rfl⟩ := owns3_shape O0
  obtain ⟨x1, y1, rfl⟩ := owns_shape O1
  obtain ⟨x2, y2, rfl⟩ := owns_shape O2
  have z3 := b3.size
  rw [tz] at z3 O0 M0 O1 O2
  have B3 : Hid (Below wb.heap.size wb w3) := Lib.hid (BW.out.trans (b3.mono (by omega)))
  have Q3 := Lib.hid ((b3.block wb.heap.size (by omega)).trans QW.out)
  have P3 := Lib.hid ((B3.out.block w.heap.size (by omega)).trans Pb.out)
  have HB3 : Hid (Below w.heap.size w w3) := Lib.hid (HBb.out.trans (B3.out.mono (by omega)))
  have RS := Lib.hid (readSp_of O0 M0 O1 O2)
  have SHM := Lib.hid (shM_of O0 M0 RS.out.1)
  have SHB := Lib.hid (shI_of O1)
  have SHE := Lib.hid (shI_of O2)
  have HPX := Lib.hid p0
  clear O0 M0 O1 O2 b3 p0 BW QW HB2 P2 tz Pb e0 e1 e2
  have BS := Lib.hid ((Below.refl w3.heap.size w3).alloc (Nat.le_refl _) (.cells #[.slice x0 X.length y0, .slice x1 B.length y1, .slice x2 E.length y2] 39))
  have QS := Lib.hid (heap_alloc_new w3 (.cells #[.slice x0 X.length y0, .slice x1 B.length y1, .slice x2 E.length y2] 39))
  have tz : (w3.alloc (.cells #[.slice x0 X.length y0, .slice x1 B.length y1, .slice x2 E.length y2] 39)).heap.size = w3.heap.size + 1 := by simp
  have NI1 := Lib.hid (NI.out X x0 x1 x2 y0 y1 y2 _ HPX.out (RS.out.below BS.out))
  go_wp2_with fail
  refine NI1.out.mono ?_
  rintro e w4 ⟨u1, u2, rfl, U1, U2, UA, bb⟩
  obtain ⟨h1, l1, rfl⟩ := owns_shape U1
  obtain ⟨h2, l2, rfl⟩ := owns_shape U2
  have z4 := bb.size
  rw [tz] at z4 U1 U2
  have B4 : Hid (Below w3.heap.size w3 w4) := Lib.hid (BS.out.trans (bb.mono (by omega)))
  have S4 := Lib.hid ((bb.block w3.heap.size (by omega)).trans QS.out)
  have G1 : Hid (w4.ownsRow (w3.heap.size + 1) 3 1 (.slice h1 sn l1) sn (intV st)) := Lib.hid U1
  have G2 : Hid (w4.ownsRow (w3.heap.size + 1) 3 1 (.slice h2 on l2) on (intV out)) := Lib.hid U2
  have GA := Lib.hid UA
  have RG1 := Lib.hid (readI_of (by rw [← HSN.out] at U1; exact U1))
  have RG2 := Lib.hid (readI_of (by rw [← HON.out] at U2; exact U2))
  clear U1 U2 UA bb BS QS tz NI1
  -- all boxes and rows, from the machine's box on
  have BG := Lib.hid ((Below.refl w4.heap.size w4).alloc (Nat.le_refl _) (.cells #[.int .i64 pc, .int .i64 sp, .int .i64 fp, .slice h1 sn l1, .slice h2 on l2, .int .i64 stt, .int .i64 val] 27))
  have QG := Lib.hid (heap_alloc_new w4 (.cells #[.int .i64 pc, .int .i64 sp, .int .i64 fp, .slice h1 sn l1, .slice h2 on l2, .int .i64 stt, .int .i64 val] 27))
  have tz : (w4.alloc (.cells #[.int .i64 pc, .int .i64 sp, .int .i64 fp, .slice h1 sn l1, .slice h2 on l2, .int .i64 stt, .int .i64 val] 27)).heap.size = w4.heap.size + 1 := by simp
  have B34 : Hid (Below w3.heap.size w3 (w4.alloc (.cells #[.int .i64 pc, .int .i64 sp, .int .i64 fp, .slice h1 sn l1, .slice h2 on l2, .int .i64 stt, .int .i64 val] 27))) := Lib.hid (B4.out.trans (BG.out.mono (by omega)))
  have Bb4 : Hid (Below wb.heap.size wb (w4.alloc (.cells #[.int .i64 pc, .int .i64 sp, .int .i64 fp, .slice h1 sn l1, .slice h2 on l2, .int .i64 stt, .int .i64 val] 27))) := Lib.hid (B3.out.trans (B34.out.mono (by omega)))
  have KP : Hid (∀ W, Below (w4.alloc (.cells #[.int .i64 pc, .int .i64 sp, .int .i64 fp, .slice h1 sn l1, .slice h2 on l2, .int .i64 stt, .int .i64 val] 27)).heap.size (w4.alloc (.cells #[.int .i64 pc, .int .i64 sp, .int .i64 fp, .slice h1 sn l1, .slice h2 on l2, .int .i64 stt, .int .i64 val] 27)) W → W.heap[w.heap.size]? = some (.cells #[.slice a0 I.length c0, .slice a1 B.length c1, .slice a2 E.length c2] 33 (0, 0)) ∧ W.heap[wb.heap.size]? = some (.cells #[.int .i64 pc, .int .i64 sp, .int .i64 fp, .slice g1 sn k1, .slice g2 on k2, .int .i64 stt, .int .i64 val] 27 (0, 0)) ∧ W.heap[w3.heap.size]? = some (.cells #[.slice x0 X.length y0, .slice x1 B.length y1, .slice x2 E.length y2] 39 (0, 0)) ∧ W.heap[w4.heap.size]? = some (.cells #[.int .i64 pc, .int .i64 sp, .int .i64 fp, .slice h1 sn l1, .slice h2 on l2, .int .i64 stt, .int .i64 val] 27 (0, 0)) ∧ Below w.heap.size w W ∧ Below w3.heap.size w3 W ∧ ReadI W g1 st ∧ ReadI W g2 out ∧ W.ownsRow (w3.heap.size + 1) 3 1 (.slice h1 sn l1) sn (intV st) ∧ W.ownsRow (w3.heap.size + 1) 3 1 (.slice h2 on l2) on (intV out) ∧ ReadI W h1 st ∧ ReadI W h2 out ∧ Below wb.heap.size wb W) := Lib.hid (fun W hb => by
    have hb3 := B34.out.trans (hb.mono (by omega))
    have hbb := Bb4.out.trans (hb.mono (by omega))
    have hb4 := BG.out.trans (hb.mono (by omega))
    exact ⟨(hb3.block _ (by omega)).trans P3.out, (hb3.block _ (by omega)).trans Q3.out, (hb4.block _ (by omega)).trans S4.out, (hb.block _ (by omega)).trans QG.out, HB3.out.trans (hb3.mono (by omega)), hb3, RW1.out.below hbb, RW2.out.below hbb, owns_below G1.out hb4, owns_below G2.out hb4, RG1.out.below hb4, RG2.out.below hb4, hbb⟩)
  clear P3 Q3 S4 B34 Bb4 BG
  have K4 := Lib.hid (KP.out _ (Below.refl _ _))
  obtain ⟨_, hq, _, hg, _⟩ := K4.out
  obtain ⟨⟨i0, i1, i2, i3, i4, i5, i6⟩, _, _⟩ := res7 hq
  obtain ⟨⟨j0, j1, j2, j3, j4, j5, j6⟩, _, _⟩ := res7 hg
  clear hq hg
  go_wp2_with fail
  obtain ⟨_, _, _, _, _, _, R1, R2, _, _, R3, R4, _⟩ := K4.out
  refine (EA.out h1 h2 g1 g2 l1 l2 k1 k2 _ R3 R4 R1 R2).mono ?_
  rintro e w5 ⟨rfl, b5⟩
  clear R1 R2 R3 R4 K4 i0 i1 i2 i3 i4 i5 i6 j0 j1 j2 j3 j4 j5 j6
  have K5 : Hid (∀ W, Below w5.heap.size w5 W → Below (w4.alloc (.cells #[.int .i64 pc, .int .i64 sp, .int .i64 fp, .slice h1 sn l1, .slice h2 on l2, .int .i64 stt, .int .i64 val] 27)).heap.size (w4.alloc (.cells #[.int .i64 pc, .int .i64 sp, .int .i64 fp, .slice h1 sn l1, .slice h2 on l2, .int .i64 stt, .int .i64 val] 27)) W) := Lib.hid (fun W hb => b5.trans (hb.mono b5.size))
  have z5 := b5.size
  rw [tz] at z5
  clear b5 tz
  have q0 : w.heap.size < w5.heap.size := by omega
  have q4 : w3.heap.size < w5.heap.size := by omega
  have K55 := Lib.hid (KP.out _ (K5.out _ (Below.refl _ _)))
  obtain ⟨ka, _, ks, _, kw, k3, _⟩ := K55.out
  have HB5 := Lib.hid kw
  have RS5 := Lib.hid (RS.out.below k3)
  have C0 := cells3s ka
  have D0 := cells3s ks
  have HC0 := Lib.hid C0
  have HD0 := Lib.hid D0
  clear ka ks kw k3 K55
  obtain ⟨e0, e1, e2⟩ := C0
  obtain ⟨f0, f1, f2⟩ := D0
  have EQ := Lib.hid (fun (W : World) (b0 b1 b2 : Option Addr) (d0 d1 d2 : Nat) (Y : List ImA) (hY : psI Y = ps) m1 m2 => l_eqSpace x0 x1 x2 b0 b1 b2 y0 y1 y2 d0 d1 d2 X Y B E W m1 m2 (HPX.out.trans hY.symm) (SML.out X HPX.out).2.1 q2 q3 (SML.out X HPX.out).1.2.2.2.1)
  go_wp2_with fail
  go_region_held3 (fun w' => (w'.cell? ⟨w.heap.size, 0, none⟩ = some (.slice a0 I.length c0) ∧ w'.cell? ⟨w.heap.size, 1, none⟩ = some (.slice a1 B.length c1) ∧ w'.cell? ⟨w.heap.size, 2, none⟩ = some (.slice a2 E.length c2)) ∧ (w'.cell? ⟨w3.heap.size, 0, none⟩ = some (.slice x0 X.length y0) ∧ w'.cell? ⟨w3.heap.size, 1, none⟩ = some (.slice x1 B.length y1) ∧ w'.cell? ⟨w3.heap.size, 2, none⟩ = some (.slice x2 E.length y2)))
    (first | go_keep | (exact ⟨keep3s bA q0 HC0.out, keep3s bA q4 HD0.out⟩) | (exact ⟨keep3s bC (by omega) (keep3s bA q0 HC0.out), keep3s bC (by omega) (keep3s bA q4 HD0.out)⟩))
    (first
      | (go_at_call 12; (with_reducible refine (TA.out _ ?_).mono ?_); exact HB5.out.drew; rintro e wA ⟨v0, Y, v1, v2, rfl, O0, M0, p0, O1, O2, bA⟩; obtain ⟨u0, t0, rfl⟩ := owns3_shape O0; obtain ⟨u1, t1, rfl⟩ := owns_shape O1; obtain ⟨u2, t2, rfl⟩ := owns_shape O2; have RY := Lib.hid (readSp_of O0 M0 O1 O2); have HPY := Lib.hid p0; clear O0 M0 O1 O2 p0; have zA : w5.heap.size ≤ wA.heap.size := bA.size)
      | (go_at_call 14; (with_reducible refine (EQ.out _ _ _ _ _ _ _ _ HPY.out ?_ ?_).mono ?_); exact RS5.out.below (undrew bA); exact RY.out; rintro e wC ⟨rfl, bC⟩))
  all_goals
    have DC : Hid (Below w5.heap.size w5 wC) := Lib.hid ((Below.refl w5.heap.size w5).drew.trans ((bA.trans (bC.mono (by exact zA))).mono (Nat.le_refl _)))
    clear bA bC zA HC0 HD0 e0 e1 e2 f0 f1 f2 RS5 HB5 EQ RY HPY
    have KC := Lib.hid (KP.out wC (K5.out _ DC.out))
    have zC := DC.out.size
    clear DC K5 KP
    obtain ⟨_, _, hs, _, _, hb3, _⟩ := KC.out
    obtain ⟨d0, d1, d2⟩ := cells3s hs
    have MS := Lib.hid (l_markSpM (wb.heap.size + 1) w3.heap.size x0 x1 x2 y0 y1 y2 1 B.length E.length X wC hb3.size (SHM.out.mkd (Mkd.below hb3)) (SHB.out.mkd (Mkd.below hb3)) (SHE.out.mkd (Mkd.below hb3)) (by omega) (by have := (SML.out X HPX.out).2.2.1; omega) (SML.out X HPX.out).2.2.2 (SML.out X HPX.out).2.1 HQ2.out HQ3.out)
    have eone : ((1 : Nat) : Int) = 1 := rfl
    rw [eone] at MS
    obtain ⟨K, hK⟩ : ∃ K, 1 + X.length + 3 * sumI X + B.length + E.length = K := ⟨_, rfl⟩
    rw [hK] at MS
    have hdK : decide ((K : Int) < 0) = false := by simp
    clear hK eone hs hb3 SHM SHB SHE RS
    go_wp2_with fail
    refine MS.out.mono ?_
    rintro e w6 ⟨rfl, b6⟩
    have K6 : Hid (∀ W, Below w6.heap.size w6 W → W.heap[w.heap.size]? = some (.cells #[.slice a0 I.length c0, .slice a1 B.length c1, .slice a2 E.length c2] 33 (0, 0)) ∧ W.heap[wb.heap.size]? = some (.cells #[.int .i64 pc, .int .i64 sp, .int .i64 fp, .slice g1 sn k1, .slice g2 on k2, .int .i64 stt, .int .i64 val] 27 (0, 0)) ∧ W.heap[w4.heap.size]? = some (.cells #[.int .i64 pc, .int .i64 sp, .int .i64 fp, .slice h1 sn l1, .slice h2 on l2, .int .i64 stt, .int .i64 val] 27 (0, 0)) ∧ Below w.heap.size w W ∧ Below wb.heap.size wb W ∧ W.ownsRow (w3.heap.size + 1) 3 1 (.slice h1 sn l1) sn (intV st) ∧ W.ownsRow (w3.heap.size + 1) 3 1 (.slice h2 on l2) on (intV out) ∧ ReadI W h1 st ∧ ReadI W h2 out ∧ ReadI W g1 st ∧ ReadI W g2 out ∧ Below w6.heap.size w6 W) := Lib.hid (fun W hb => by
      obtain ⟨ka, kw, _, kg, kb, k3, _, _, o1, o2, _, _, kk⟩ := KC.out
      have s6 := b6.size
      have bb6 : Below wb.heap.size wb W := kk.trans ((b6.toBelow (B := wb.heap.size) (by omega) kk.size).trans (hb.mono (by have := kk.size; omega)))
      have p1 : w6.ownsRow (w3.heap.size + 1) 3 1 (.slice h1 sn l1) sn (intV st) := owns_if o1 (fun g hg => b6.block (o1.lt g hg).2 (.inr (by have := (o1.lt g hg).1; omega)))
      have p2 : w6.ownsRow (w3.heap.size + 1) 3 1 (.slice h2 on l2) on (intV out) := owns_if o2 (fun g hg => b6.block (o2.lt g hg).2 (.inr (by have := (o2.lt g hg).1; omega)))
      have n1 : ReadI w6 h1 st := readI_of (by have h := p1; rw [← HSN.out] at h; exact h)
      have n2 : ReadI w6 h2 out := readI_of (by have h := p2; rw [← HON.out] at h; exact h)
      exact ⟨(hb.block _ (by omega)).trans ((b6.block (by omega) (.inl (by omega))).trans ka), (hb.block _ (by omega)).trans ((b6.block (by omega) (.inl (by omega))).trans kw), (hb.block _ (by omega)).trans ((b6.block (by omega) (.inr (by omega))).trans kg), kb.trans ((b6.toBelow (B := w.heap.size) (by omega) (by omega)).trans (hb.mono (by omega))), bb6, owns_below p1 hb, owns_below p2 hb, n1.below hb, n2.below hb, RW1.out.below bb6, RW2.out.below bb6, hb⟩)
    have z6 := b6.size
    clear b6 KC MS d0 d1 d2
    have K66 := Lib.hid (K6.out _ (Below.refl _ _))
    obtain ⟨_, hq, hg, _⟩ := K66.out
    obtain ⟨⟨i0, i1, i2, i3, i4, i5, i6⟩, _, _⟩ := res7 hq
    obtain ⟨⟨j0, j1, j2, j3, j4, j5, j6⟩, _, _⟩ := res7 hg
    clear hq hg
    go_wp2_with fail
    obtain ⟨_, _, _, _, _, _, _, R3, R4, R1, R2, _⟩ := K66.out
    refine (EA.out h1 h2 g1 g2 l1 l2 k1 k2 _ R3 R4 R1 R2).mono ?_
    rintro e w7 ⟨rfl, b7⟩
    clear R1 R2 R3 R4 K66 i0 i1 i2 i3 i4 i5 i6 j0 j1 j2 j3 j4 j5 j6 hdK
    have K7 := Lib.hid (K6.out _ b7)
    have z7 := b7.size
    clear b7 K6
    obtain ⟨_, _, hg, _, _, o1, o2, _⟩ := K7.out
    obtain ⟨⟨j0, j1, j2, j3, j4, j5, j6⟩, _, _⟩ := res7 hg
    have MK7 := Lib.hid (MK.out h1 h2 l1 l2 (w3.heap.size + 1) w4.heap.size w7 o1 o2 GA.out (by omega) (by omega) (fun g e => (G1.out.lt g e).2) (fun g e => (G2.out.lt g e).2))
    clear hg o1 o2
    go_wp2_with fail
    refine MK7.out.mono ?_
    rintro e w8 ⟨rfl, N1, N2, b8⟩
    have R1 : Hid (ReadI w8 h1 (mki 1 sn)) := Lib.hid (readI_of (l := mki 1 sn) (by rw [mki_length]; exact N1))
    have R2 : Hid (ReadI w8 h2 (mki (1 + sn) on)) := Lib.hid (readI_of (l := mki (1 + sn) on) (by rw [mki_length]; exact N2))
    have K8 : Hid (∀ W, Below w8.heap.size w8 W → W.heap[w.heap.size]? = some (.cells #[.slice a0 I.length c0, .slice a1 B.length c1, .slice a2 E.length c2] 33 (0, 0)) ∧ W.heap[wb.heap.size]? = some (.cells #[.int .i64 pc, .int .i64 sp, .int .i64 fp, .slice g1 sn k1, .slice g2 on k2, .int .i64 stt, .int .i64 val] 27 (0, 0)) ∧ W.heap[w4.heap.size]? = some (.cells #[.int .i64 pc, .int .i64 sp, .int .i64 fp, .slice h1 sn l1, .slice h2 on l2, .int .i64 stt, .int .i64 val] 27 (0, 0)) ∧ Below w.heap.size w W ∧ ReadI W h1 (mki 1 sn) ∧ ReadI W h2 (mki (1 + sn) on) ∧ ReadI W g1 st ∧ ReadI W g2 out) := Lib.hid (fun W hb => by
      obtain ⟨ka, kw, kg, kb, kk, _⟩ := K7.out
      have s8 := b8.size
      have bb8 : Below wb.heap.size wb W := kk.trans ((b8.toBelow (B := wb.heap.size) (by omega) kk.size).trans (hb.mono (by have := kk.size; omega)))
      exact ⟨(hb.block _ (by omega)).trans ((b8.block _ (by omega) (.inl (by omega))).trans ka), (hb.block _ (by omega)).trans ((b8.block _ (by omega) (.inl (by omega))).trans kw), (hb.block _ (by omega)).trans ((b8.block _ (by omega) (.inr (by omega))).trans kg), kb.trans ((b8.toBelow (B := w.heap.size) (by omega) (by omega)).trans (hb.mono (by omega))), R1.out.below hb, R2.out.below hb, RW1.out.below bb8, RW2.out.below bb8⟩)
    have z8 := b8.size
    clear b8 K7 MK7 N1 N2 j0 j1 j2 j3 j4 j5 j6 G1 G2 GA RW1 RW2
    have HM8 := Lib.hid (HM.out h1 h2 l1 l2 w8 R1.out R2.out)
    clear R1 R2
    obtain ⟨_, _, hg, _⟩ := K8.out _ (Below.refl _ _)
    obtain ⟨⟨j0, j1, j2, j3, j4, j5, j6⟩, _, _⟩ := res7 hg
    clear hg
    have hdQ : decide ((Q : Int) < 0) = false := by simp
    go_wp2_with fail
    refine HM8.out.mono ?_
    rintro e w9 ⟨rfl, b9⟩
    have z9 := b9.size
    have D9 := Lib.hid b9
    clear b9 HM8 j0 j1 j2 j3 j4 j5 j6
    have K99 := Lib.hid (K8.out _ D9.out)
    obtain ⟨ka, _, _, kb, _⟩ := K99.out
    have HB9 := Lib.hid kb
    obtain ⟨e0, e1, e2⟩ := cells3s ka
    clear ka kb K99
    go_wp2_with fail
    refine (TA.out _ HB9.out).mono ?_
    rintro e wd ⟨v0, Y, v1, v2, rfl, O0, M0, p0, O1, O2, bd⟩
    obtain ⟨n0, s0, rfl⟩ := owns3_shape O0
    obtain ⟨n1, s1, rfl⟩ := owns_shape O1
    obtain ⟨n2, s2, rfl⟩ := owns_shape O2
    have NI2 := Lib.hid (NI.out Y n0 n1 n2 s0 s1 s2 wd p0 (readSp_of O0 M0 O1 O2))
    have Dd : Hid (Below w8.heap.size w8 wd) := Lib.hid (D9.out.trans (bd.mono z9))
    have zd := bd.size
    clear O0 M0 O1 O2 p0 bd D9 HB9 e0 e1 e2 NI
    go_wp2_with fail
    refine NI2.out.mono ?_
    rintro e we ⟨u1, u2, rfl, U1, U2, _, be⟩
    obtain ⟨t1, r1, rfl⟩ := owns_shape U1
    obtain ⟨t2, r2, rfl⟩ := owns_shape U2
    have RT1 := Lib.hid (readI_of (by rw [← HSN.out] at U1; exact U1))
    have RT2 := Lib.hid (readI_of (by rw [← HON.out] at U2; exact U2))
    have ze := be.size
    have De : Hid (Below w8.heap.size w8 we) := Lib.hid (Dd.out.trans (be.mono (by omega)))
    clear U1 U2 be NI2 Dd
    have BZ := Lib.hid ((Below.refl we.heap.size we).alloc (Nat.le_refl _) (.cells #[.int .i64 pc, .int .i64 sp, .int .i64 fp, .slice t1 sn r1, .slice t2 on r2, .int .i64 stt, .int .i64 val] 27))
    have QZ := Lib.hid (heap_alloc_new we (.cells #[.int .i64 pc, .int .i64 sp, .int .i64 fp, .slice t1 sn r1, .slice t2 on r2, .int .i64 stt, .int .i64 val] 27))
    have Df : Hid (Below w8.heap.size w8 (we.alloc (.cells #[.int .i64 pc, .int .i64 sp, .int .i64 fp, .slice t1 sn r1, .slice t2 on r2, .int .i64 stt, .int .i64 val] 27))) := Lib.hid (De.out.trans (BZ.out.mono (by omega)))
    obtain ⟨_, hq, _, _, _, _, m1, m2⟩ := K8.out _ Df.out
    obtain ⟨⟨i0, i1, i2, i3, i4, i5, i6⟩, _, _⟩ := res7 hq
    obtain ⟨⟨j0, j1, j2, j3, j4, j5, j6⟩, _, _⟩ := res7 QZ.out
    have EZ := Lib.hid (EA.out t1 t2 g1 g2 r1 r2 k1 k2 _ (RT1.out.below BZ.out) (RT2.out.below BZ.out) m1 m2)
    have tz : (we.alloc (.cells #[.int .i64 pc, .int .i64 sp, .int .i64 fp, .slice t1 sn r1, .slice t2 on r2, .int .i64 stt, .int .i64 val] 27)).heap.size = we.heap.size + 1 := by simp
    clear hq m1 m2 BZ QZ RT1 RT2 De
    go_wp2_with fail
    refine EZ.out.mono ?_
    rintro e wf ⟨rfl, bf⟩
    have Dg : Hid (Below w8.heap.size w8 wf) := Lib.hid (Df.out.trans (bf.mono (by rw [tz]; omega)))
    clear bf tz Df EZ i0 i1 i2 i3 i4 i5 i6 j0 j1 j2 j3 j4 j5 j6
    obtain ⟨_, _, hg, _, m1, m2, _⟩ := K8.out _ Dg.out
    obtain ⟨⟨j0, j1, j2, j3, j4, j5, j6⟩, _, _⟩ := res7 hg
    have HM9 := Lib.hid (HM.out h1 h2 l1 l2 wf m1 m2)
    clear hg m1 m2
    go_wp2_with fail
    refine HM9.out.mono ?_
    rintro e wg ⟨rfl, bg⟩
    have HBE := Lib.hid ((K8.out _ (Dg.out.trans (bg.mono Dg.out.size))).2.2.2.1)
    clear bg HM9 Dg j0 j1 j2 j3 j4 j5 j6
    go_wp2
    go_ret
    exact ⟨rfl, HBE.out⟩

theorem own : ownKnob Try.prog.godebug = none := by kernel_rfl
theorem laidOut : laidOutB Try.prog = true := by kernel_rfl

set_option maxRecDepth 100000 in
theorem lifted (os : Os) (started : os.Started) (H : Type) (enc : TypeId × Value → H) :
    ReturnsInHanded {} Try.checked os 4 .any (Rows.fnExactNewMachineSpec.pre6 enc Try.prog Try.f4 Rows.fnExactNewMachineRow.domain false) (Rows.fnExactNewMachineSpec.post enc Try.prog Try.f4 false true false false) := by
  refine returnsInHanded_of_change (C := Try.checked) own started (by kernel_rfl) Try.func4
    (ChangeSpec.witness6 (enc := enc) (C := Try.checked) false ⟨#[], #[.agg #[.slice none 0 0, .slice none 0 0, .slice none 0 0]], []⟩ 8 (by kernel_rfl) (by kernel_rfl) (by kernel_rfl) (by kernel_rfl)) ?_
  intro W base args ds gs before hval0 hW hcnd _
  have hval : ∀ (j : Nat) t v, Try.f4.params[j]? = some t → args[j]? = some v → Value.okWide Try.prog W .any base t v := hval0
  have hW' := hW
  obtain ⟨p, q, hA0, hV, rfl, hfz, hnd⟩ := hW
  have hA : DataW.TrodAll enc Try.prog W 0 (fun _ => true) true Try.f4.params.toList args.toList ds p := hA0
  rw [Try.params4] at hA hval
  obtain ⟨v0, vs0, d0, ds0, p0, q0, hargs, rfl, rfl, h0, r0⟩ := trodAll_cons hA
  obtain ⟨rfl, rfl, rfl⟩ := trodAll_nil r0
  obtain rfl : args = #[v0] := by cases args; simp_all
  obtain ⟨rfl, rfl⟩ := trodVars_none hV
  have k0 := h0
  have lt0 : ∀ x ∈ p0, x.block < W.heap.size := by obtain ⟨m, hm⟩ := k0; exact DataW.trod_lt m _ _ _ hm
  obtain ⟨x0, y0, z0, X0, Y0, Z0, n0, rfl, _, _, f0, g0, e0⟩ := Joins.open_agg3 Try.underlying33 (by kernel_rfl) (by kernel_rfl) (hval 0 33 v0 rfl rfl) h0
  obtain ⟨aI0, cI0, lI0, rfl, mI0, wI0⟩ := argIms_at Try.underlying31 Try.underlying57 (by kernel_rfl) (by kernel_rfl) Try.underlying9 Try.underlying55 Try.underlying91 (by kernel_rfl) (by kernel_rfl) Try.underlying9 Try.underlying3 Try.underlying3 f0
  obtain ⟨lB0, aB0, cB0, rfl, wB0, mB0, bB0⟩ := argInB_at Try.underlying22 Try.underlying3 (by kernel_rfl) g0
  obtain ⟨lE0, aE0, cE0, rfl, wE0, mE0, bE0⟩ := argInB_at Try.underlying22 Try.underlying3 (by kernel_rfl) e0
  clear hA0 hval0
  refine (walk aI0 aB0 aE0 cI0 cB0 cE0 lI0 lB0 lE0 W mI0 mB0 mE0 bE0 ⟨wI0, wB0, wE0⟩).mono fun e W' ⟨he, bel⟩ => ?_
  subst he
  exact ⟨_, rfl, _, _, _, [], _, [], hW', trodAll_mk1 (shut_bool Try.underlying4 _), (trodAll_cons_mk (Below.trod laidOut (by kernel_rfl) (of_decide_eq_true (by kernel_rfl)) k0 bel lt0) trodAll_mk0), rfl, bel.frame _, fun h => by cases h⟩

theorem over : Rows.fnExactNewMachineRow.holds Try.pinned (OpenSpec.ofChange Rows.fnExactNewMachineSpec) :=
  OpenClaim.holds_of_wide 4 Try.f4 rfl rfl rfl rfl rfl rfl rfl ⟨rfl, rfl, rfl, rfl, rfl⟩ rfl rfl rfl rfl rfl (by kernel_rfl) Try.func4 (by kernel_rfl)
    (of_decide_eq_true (by kernel_rfl)) (by unfold Func.isWrapper; first | (rw [if_pos (by decide +kernel)]; kernel_rfl) | (rw [if_neg (by decide +kernel)]; exact ⟨rfl, rfl⟩))
    (fun os started H enc _ => lifted os started H enc)

theorem proved : Rows.FnExactNewMachineSaid := over
end Go.Proofs.Ytljmkkodhnkemaa.fnExactNewMachine
