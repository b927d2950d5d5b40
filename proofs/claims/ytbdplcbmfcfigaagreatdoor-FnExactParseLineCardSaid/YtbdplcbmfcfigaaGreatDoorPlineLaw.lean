/- Walks: The laws' markLine and heldLine: a line's texts and tokens are marked, and hold the marks; The law on ParseLine, walked. -/
import Derived.Test.YtbdplcbmfcfigaaGreatDoorMarkStrs
import Derived.Test.YtbdplcbmfcfigaaGreatDoorHeldStrs
import Derived.Test.YtbdplcbmfcfigaaGreatDoorMarkToks
import Derived.Test.YtbdplcbmfcfigaaGreatDoorHeldToks
import Derived.Test.YtbdplcbmfcfigaaGreatDoorPlainB
import Derived.Test.YtbdplcbmfcfigaaGreatDoorLineImpl
import Derived.Test.YtbdplcbmfcfigaaGreatDoorPlnSpec
import Derived.Test.YtbdplcbmfcfigaaGreatDoorLineEq
import Derived.Outline
import Derived.Lib.Hide
/-! The laws' markLine and heldLine: a line's texts and tokens are marked, and hold the marks -/
namespace Go.Proofs.YtbdplcbmfcfigaaGreatDoor
open Go.RowKit Go.Lib

theorem own_type {B T n s : Nat} {w : World} {v : Value} {xs : List Value} (h : w.ownsRow B T s v n xs) (g : Nat) (hg : v.ownBlock = some g) : ∃ cs, w.heap[g]? = some (.cells cs T (0, 0)) := by
  rcases h.2 with ⟨rfl, _⟩ | ⟨g', cap, cur, rfl, _, hh, _⟩
  · cases hg
  · injection hg with hg
    subst hg
    exact ⟨_, hh⟩

set_option maxRecDepth 100000 in
set_option maxHeartbeats 1000000 in
theorem l_markLine (k : Int) (nm : ByteArray) (gs : List ByteArray) (n : Nat) (xs : List Value) (a b : Option Addr) (c d B : Nat) (w : World) (hA : w.ownsRow B 9 1 (.slice a gs.length c) gs.length (strV gs)) (hE : w.ownsRow B 67 3 (.slice b n d) n xs) (hB : B ≤ w.heap.size) (hg : gs.length ≤ 4) (hn : n ≤ 1048576) :
    Calls Tryz.prog 17 #[.agg #[.int .i64 k, .string nm, .slice a gs.length c, .slice b n d], .int .i64 1] w fun e w' => e = .returned (.int .i64 ((1 + gs.length + 3 * n : Nat) : Int)) ∧
      w'.ownsRow B 9 1 (.slice a gs.length c) gs.length (strV (mks 1 gs.length)) ∧ w'.ownsRow B 67 3 (.slice b n d) n (toksV (mkTs (1 + gs.length) n)) ∧ Below B w w' ∧
      ∀ j, j < w.heap.size → (Value.slice a gs.length c).ownBlock ≠ some j → (Value.slice b n d).ownBlock ≠ some j → w'.heap[j]? = w.heap[j]? := by
  have HBn : Hid (Below w.heap.size w (w.alloc (.cells #[.int .i64 k, .string nm, .slice a gs.length c, .slice b n d] 32))) := Lib.hid ((Below.refl _ _).alloc (Nat.le_refl _) _)
  have X0 := Lib.hid (heap_alloc_new w (.cells #[.int .i64 k, .string nm, .slice a gs.length c, .slice b n d] 32))
  have OA := Lib.hid (owns_below hA HBn.out)
  have OE := Lib.hid (owns3_below hE HBn.out)
  have hlt := Lib.hid hA.lt
  have hltE := Lib.hid hE.lt
  clear hA hE
  have tz : (w.alloc (.cells #[.int .i64 k, .string nm, .slice a gs.length c, .slice b n d] 32)).heap.size = w.heap.size + 1 := by simp
  go_enter Tryz.func17, Tryz.ntmps17
  go_wp2_with fail
  refine (l_markStrs a c gs 1 B _ OA.out (by omega) (by omega) (by omega) (by omega)).mono ?_
  rintro e w2 ⟨rfl, O2, g2⟩
  have z2 := g2.size
  rw [tz] at z2
  have X2 := Lib.hid ((g2.block _ (by omega) (fun e => by have := (hlt.out _ e.symm).2; omega)).trans X0.out)
  have OE2 := Lib.hid (owns_other OE.out g2 (fun g hg => .inr (by obtain ⟨cs, h⟩ := own_type OA.out g hg; exact ⟨cs, _, h, by decide⟩)))
  have HB2 : Hid (Below B w w2) := Lib.hid ((HBn.out.mono hB).grown g2 (by omega) (fun j hj => (hlt.out j hj).1))
  have O2' := Lib.hid O2
  have K2 := Lib.hid (fun j (hj : j < w.heap.size) (h : (Value.slice a gs.length c).ownBlock ≠ some j) => (g2.block j (by omega) (fun e => h e.symm)).trans (HBn.out.block j hj))
  clear g2 O2
  have e3 : w2.cell? ⟨w.heap.size, 3, none⟩ = some (.slice b n d) := (blk X2.out).1 3 _ rfl
  have m2 := (blk X2.out).2.2
  go_wp2_with fail
  refine (l_markToks b d n xs (1 + gs.length) B _ OE2.out (by omega) hn (by omega) (by omega)).mono ?_
  rintro e w3 ⟨rfl, O3, g3⟩
  have OS3 := Lib.hid (owns_other O2'.out g3 (fun g hg => .inr (by obtain ⟨cs, h⟩ := own_type OE2.out g hg; exact ⟨cs, _, h, by decide⟩)))
  have HB3 : Hid (Below B w w3) := Lib.hid (HB2.out.grown g3 (by omega) (fun j hj => (hltE.out j hj).1))
  have O3' := Lib.hid O3
  have K3 := Lib.hid (fun j (hj : j < w.heap.size) (h : (Value.slice b n d).ownBlock ≠ some j) => g3.block j (by omega) (fun e => h e.symm))
  clear g3 O3
  go_wp2
  go_ret
  exact ⟨rfl, OS3.out, O3'.out, HB3.out, fun j hj h1 h2 => (K3.out j hj h2).trans (K2.out j hj h1)⟩

set_option maxRecDepth 100000 in
set_option maxHeartbeats 1000000 in
theorem l_heldLine (k : Int) (nm : ByteArray) (m n : Nat) (a b : Option Addr) (c d : Nat) (w : World) (hA : ReadS w a (mks 1 m)) (hE : ReadT w b (mkTs (1 + m) n)) (hg : m ≤ 4) (hn : n ≤ 1048576) :
    Calls Tryz.prog 18 #[.agg #[.int .i64 k, .string nm, .slice a m c, .slice b n d], .int .i64 1] w fun e w' => e = .returned (.int .i64 ((1 + m + 3 * n : Nat) : Int)) ∧ Below w.heap.size w w' := by
  have HBn : Hid (Below w.heap.size w (w.alloc (.cells #[.int .i64 k, .string nm, .slice a m c, .slice b n d] 32))) := Lib.hid ((Below.refl _ _).alloc (Nat.le_refl _) _)
  have X0 := Lib.hid (heap_alloc_new w (.cells #[.int .i64 k, .string nm, .slice a m c, .slice b n d] 32))
  have HA := Lib.hid hA
  have HE := Lib.hid hE
  clear hA hE
  have tz : (w.alloc (.cells #[.int .i64 k, .string nm, .slice a m c, .slice b n d] 32)).heap.size = w.heap.size + 1 := by simp
  go_enter Tryz.func18, Tryz.ntmps18
  go_wp2_with fail
  refine (l_heldStrs a c m 1 _ (HA.out.below HBn.out) (by omega) (by omega) (by omega)).mono ?_
  rintro e w2 ⟨rfl, b2⟩
  have z2 := b2.size
  rw [tz] at z2 b2
  have X2 := Lib.hid ((b2.block _ (by omega)).trans X0.out)
  have HB2 : Hid (Below w.heap.size w w2) := Lib.hid (HBn.out.trans (b2.mono (by omega)))
  clear b2
  have e3 : w2.cell? ⟨w.heap.size, 3, none⟩ = some (.slice b n d) := (blk X2.out).1 3 _ rfl
  have m2 := (blk X2.out).2.2
  have hd : decide (((1 + m : Nat) : Int) < 0) = false := decide_eq_false (by omega)
  go_wp2_with fail
  refine (l_heldToks b d n (1 + m) _ (HE.out.below HB2.out) hn (by omega) (by omega)).mono ?_
  rintro e w3 ⟨rfl, b3⟩
  have HB3 : Hid (Below w.heap.size w w3) := Lib.hid (HB2.out.trans (b3.mono (by omega)))
  clear b3
  have hd : decide (((1 + m + 3 * n : Nat) : Int) < 0) = false := decide_eq_false (by omega)
  go_wp2
  go_ret
  exact ⟨rfl, HB3.out⟩
end Go.Proofs.YtbdplcbmfcfigaaGreatDoor

/-! The law on ParseLine, walked -/
namespace Go.Proofs.YtbdplcbmfcfigaaGreatDoor.fnExactParseLine
open Go.RowKit Go.Lib

theorem plZ_small (s : ByteArray) : (plZ s).1.args.length ≤ 4 ∧ (plZ s).1.expr.length ≤ 20 := by
  by_cases hc : (spR s).2 = true ∧ (spR s).1 ≠ [] ∧ lineB (lowS (spR s).1) = true ∧ lineT (lowS (spR s).1) = s
  · rw [plZ_yes s hc]
    exact ⟨line_args _ hc.2.2.1, (ef_small _ _ ((lineB_iff _).1 hc.2.2.1).2.2.2).1⟩
  · rw [plZ_no s hc]
    exact ⟨by decide, by decide⟩

theorem owns_old {B0 B T n s : Nat} {w w' : World} {v : Value} {xs : List Value} (h : w.ownsRow B0 T s v n xs) (hb : Below B w w') (hlt : ∀ g, v.ownBlock = some g → g < B) : w'.ownsRow B0 T s v n xs := by
  refine ⟨h.1, ?_⟩
  rcases h.2 with h | ⟨g, cap, cur, rfl, hB, hh, r⟩
  · exact .inl h
  · exact .inr ⟨g, cap, cur, rfl, hB, (hb.block g (hlt g rfl)).trans hh, r⟩

set_option maxRecDepth 100000 in
set_option maxHeartbeats 4000000 in
theorem walk0 (s : ByteArray) (p : Addr) (w : World) (hm : s.size ≤ maxLen) (hE : Env w) (hT : Table w) (hS : Shapes w) (hN : NoL p w) :
    Calls Tryz.prog 4 #[.string s] w fun e w' => e = .returned (.bool true) ∧ Below w.heap.size w w' := by
  have S := Lib.hid (fun W => s_pline s W hm)
  have I := Lib.hid (fun (W : World) (hb : Below w.heap.size w W) => i_pline s p W hm (hE.on hb) (hT.on hb) (hS.on hb) (hN.on hb))
  obtain ⟨h4, h20⟩ := plZ_small s
  obtain ⟨r, hr⟩ : ∃ r, plZ s = r := ⟨_, rfl⟩
  rw [hr] at S I h4 h20
  clear hE hT hS hN hr
  obtain ⟨⟨k, nm, gs, ex⟩, ok⟩ := r
  dsimp only at h4 h20
  by_cases hlong : 1048576 < s.size
  · have hd : decide (1048576 < (s.size : Int)) = true := decide_eq_true (by omega)
    clear S I
    unfold maxLen at hm
    go_enter Tryz.func4, Tryz.ntmps4
    go_wp2
    go_ret
    exact ⟨rfl, Below.refl _ _⟩
  have hd : decide (1048576 < (s.size : Int)) = false := decide_eq_false (by omega)
  unfold maxLen at hm
  go_enter Tryz.func4, Tryz.ntmps4
  go_wp2_with fail
  refine (S.out _).mono ?_
  rintro e w1 ⟨va0, ve0, rfl, A0, E0, b1⟩
  obtain ⟨a0, c0, rfl⟩ := owns_shape A0
  obtain ⟨x0, d0, rfl⟩ := owns3_shape E0
  dsimp only at A0 E0 ⊢
  have z1 := b1.size
  have HBn : Hid (Below w1.heap.size w1 (w1.alloc (.cells #[.int .i64 k, .string nm, .slice a0 gs.length c0, .slice x0 ex.length d0] 32))) := Lib.hid ((Below.refl _ _).alloc (Nat.le_refl _) _)
  have HB2 : Hid (Below w.heap.size w (w1.alloc (.cells #[.int .i64 k, .string nm, .slice a0 gs.length c0, .slice x0 ex.length d0] 32))) := Lib.hid (b1.alloc z1 _)
  have X2 := Lib.hid (heap_alloc_new w1 (.cells #[.int .i64 k, .string nm, .slice a0 gs.length c0, .slice x0 ex.length d0] 32))
  have oldA := Lib.hid A0.lt
  have oldE := Lib.hid E0.lt
  have A2 := Lib.hid (owns_below A0 HBn.out)
  have E2 := Lib.hid (owns3_below E0 HBn.out)
  have tz : (w1.alloc (.cells #[.int .i64 k, .string nm, .slice a0 gs.length c0, .slice x0 ex.length d0] 32)).heap.size = w1.heap.size + 1 := by simp
  clear b1 A0 E0
  go_wp2_with fail
  refine (I.out _ HB2.out).mono ?_
  rintro e w3 ⟨va1, ve1, rfl, A1, E1, b3⟩
  obtain ⟨a1, c1, rfl⟩ := owns_shape A1
  obtain ⟨x1, d1, rfl⟩ := owns3_shape E1
  dsimp only at A1 E1 ⊢
  have z3 := b3.size
  have HB3 : Hid (Below w.heap.size w w3) := Lib.hid (HB2.out.trans (b3.mono (by omega)))
  have X3 := Lib.hid ((b3.block _ (by omega)).trans X2.out)
  have A3 := Lib.hid (owns_below A2.out b3)
  have E3 := Lib.hid (owns3_below E2.out b3)
  rw [tz] at A1 E1 z3
  have HBm : Hid (Below w3.heap.size w3 (w3.alloc (.cells #[.int .i64 k, .string nm, .slice a1 gs.length c1, .slice x1 ex.length d1] 32))) := Lib.hid ((Below.refl _ _).alloc (Nat.le_refl _) _)
  have HB4 : Hid (Below w.heap.size w (w3.alloc (.cells #[.int .i64 k, .string nm, .slice a1 gs.length c1, .slice x1 ex.length d1] 32))) := Lib.hid (HB3.out.alloc (by omega) _)
  have Y4 := Lib.hid (heap_alloc_new w3 (.cells #[.int .i64 k, .string nm, .slice a1 gs.length c1, .slice x1 ex.length d1] 32))
  have X4 := Lib.hid ((HBm.out.block _ (by omega)).trans X3.out)
  have A4 := Lib.hid (owns_below A3.out HBm.out)
  have E4 := Lib.hid (owns3_below E3.out HBm.out)
  have M4 := Lib.hid (owns_below A1 HBm.out)
  have N4 := Lib.hid (owns3_below E1 HBm.out)
  have hltM := Lib.hid A1.lt
  have hltN := Lib.hid E1.lt
  have tz4 : (w3.alloc (.cells #[.int .i64 k, .string nm, .slice a1 gs.length c1, .slice x1 ex.length d1] 32)).heap.size = w3.heap.size + 1 := by simp
  obtain ⟨W4, hW4⟩ : ∃ W, w3.alloc (.cells #[.int .i64 k, .string nm, .slice a1 gs.length c1, .slice x1 ex.length d1] 32) = W := ⟨_, rfl⟩
  rw [hW4] at HB4 Y4 X4 A4 E4 M4 N4 tz4
  have HW4 := Lib.hid hW4
  clear b3 A1 E1 hW4 HBm HBn X2 X3 A2 E2 A3 E3 tz hd
  have e0 := (blk X4.out).1 0 _ rfl
  have e1 := (blk X4.out).1 1 _ rfl
  have e2 := (blk X4.out).1 2 _ rfl
  have e3 := (blk X4.out).1 3 _ rfl
  have f0 := (blk Y4.out).1 0 _ rfl
  have f1 := (blk Y4.out).1 1 _ rfl
  have f2 := (blk Y4.out).1 2 _ rfl
  have f3 := (blk Y4.out).1 3 _ rfl
  go_upto_region 5 with fail
  rw [HW4.out]
  have RA4 := Lib.hid (reads_of A4.out)
  have RE4 := Lib.hid (readT_of E4.out)
  have RM4 := Lib.hid (reads_of M4.out)
  have RN4 := Lib.hid (readT_of N4.out)
  have mY := (blk Y4.out).2.2
  have mX := (blk X4.out).2.2
  go_wp2_with fail
  refine (l_eqLine k nm gs ex a1 a0 x1 x0 c1 c0 d1 d0 _ RM4.out RA4.out RN4.out RE4.out (by omega) (by omega)).mono ?_
  rintro e w5 ⟨rfl, b5⟩
  have z5 := b5.size
  have HB5 : Hid (Below w.heap.size w w5) := Lib.hid (HB4.out.trans (b5.mono (by omega)))
  have X5 := Lib.hid ((b5.block _ mX).trans X4.out)
  have Y5 := Lib.hid ((b5.block _ mY).trans Y4.out)
  have A5 := Lib.hid (owns_below A4.out b5)
  have E5 := Lib.hid (owns3_below E4.out b5)
  have M5 := Lib.hid (owns_below M4.out b5)
  have N5 := Lib.hid (owns3_below N4.out b5)
  clear b5 e0 e1 e2 e3 f0 f1 f2 f3 RA4 RE4 RM4 RN4 A4 E4 M4 N4 X4 Y4 mY mX HW4 HB2 HB3 HB4
  have f0 := (blk Y5.out).1 0 _ rfl
  have f1 := (blk Y5.out).1 1 _ rfl
  have f2 := (blk Y5.out).1 2 _ rfl
  have f3 := (blk Y5.out).1 3 _ rfl
  have mY := (blk Y5.out).2.2
  cases ok
  all_goals
    go_wp2_with fail
    refine (l_markLine k nm gs ex.length _ a1 x1 c1 d1 (w1.heap.size + 1) _ M5.out N5.out (by omega) h4 (by omega)).mono ?_
    rintro e w6 ⟨rfl, M6', N6', B6, K6⟩
    have z6 : w5.heap.size ≤ w6.heap.size := B6.size
    have Y6 := Lib.hid ((K6 w3.heap.size mY (fun e => by have := (hltM.out _ e).2; omega) (fun e => by have := (hltN.out _ e).2; omega)).trans Y5.out)
    have X6 := Lib.hid ((B6.block _ (by omega)).trans X5.out)
    have A6 := Lib.hid (owns_old A5.out B6 (fun g hg => by have := (oldA.out g hg).2; omega))
    have E6 := Lib.hid (owns_old E5.out B6 (fun g hg => by have := (oldE.out g hg).2; omega))
    have HB6 : Hid (Below w.heap.size w w6) := Lib.hid (HB5.out.trans (B6.mono (by omega)))
    have hl1 : (mks 1 gs.length).length = gs.length := mks_length _ _
    have hl2 : (mkTs (1 + gs.length) ex.length).length = ex.length := mkTs_length _ _
    have RM6 : Hid (ReadS w6 a1 (mks 1 gs.length)) := Lib.hid (reads_of (l := mks 1 gs.length) (by rw [hl1]; exact M6'))
    have RN6 : Hid (ReadT w6 x1 (mkTs (1 + gs.length) ex.length)) := Lib.hid (readT_of (l := mkTs (1 + gs.length) ex.length) (by rw [hl2]; exact N6'))
    clear M6' N6' B6 K6 hl1 hl2 f0 f1 f2 f3 mY X5 Y5 A5 E5 M5 N5
    have f0 := (blk Y6.out).1 0 _ rfl
    have f1 := (blk Y6.out).1 1 _ rfl
    have f2 := (blk Y6.out).1 2 _ rfl
    have f3 := (blk Y6.out).1 3 _ rfl
    have mY := (blk Y6.out).2.2
    have mX := (blk X6.out).2.2
    go_wp2_with fail
    refine (l_heldLine k nm gs.length ex.length a1 x1 c1 d1 _ RM6.out RN6.out h4 (by omega)).mono ?_
    rintro e w7 ⟨rfl, b7⟩
    have z7 := b7.size
    have HB7 : Hid (Below w.heap.size w w7) := Lib.hid (HB6.out.trans (b7.mono (by omega)))
    have X7 := Lib.hid ((b7.block _ mX).trans X6.out)
    have Y7 := Lib.hid ((b7.block _ mY).trans Y6.out)
    have A7 := Lib.hid (owns_below A6.out b7)
    have E7 := Lib.hid (owns3_below E6.out b7)
    have RM7 := Lib.hid (RM6.out.below b7)
    have RN7 := Lib.hid (RN6.out.below b7)
    have hd : decide (((1 + gs.length + 3 * ex.length : Nat) : Int) < 0) = false := decide_eq_false (by omega)
    clear b7 f0 f1 f2 f3 mY mX X6 Y6 A6 E6 RM6 RN6
    go_wp2_with fail
    refine (I.out _ HB7.out).mono ?_
    rintro e w8 ⟨va2, ve2, rfl, A2, E2, b8⟩
    obtain ⟨a2, c2, rfl⟩ := owns_shape A2
    obtain ⟨x2, d2, rfl⟩ := owns3_shape E2
    dsimp only at A2 E2 ⊢
    have z8 := b8.size
    have HB8 : Hid (Below w.heap.size w w8) := Lib.hid (HB7.out.trans (b8.mono (by omega)))
    have HB9 : Hid (Below w.heap.size w (w8.alloc (.cells #[.int .i64 k, .string nm, .slice a2 gs.length c2, .slice x2 ex.length d2] 32))) := Lib.hid (HB8.out.alloc (by omega) _)
    have HBm : Hid (Below w8.heap.size w8 (w8.alloc (.cells #[.int .i64 k, .string nm, .slice a2 gs.length c2, .slice x2 ex.length d2] 32))) := Lib.hid ((Below.refl _ _).alloc (Nat.le_refl _) _)
    have b9 : Below w7.heap.size w7 (w8.alloc (.cells #[.int .i64 k, .string nm, .slice a2 gs.length c2, .slice x2 ex.length d2] 32)) := b8.alloc z8 _
    have Z9 := Lib.hid (heap_alloc_new w8 (.cells #[.int .i64 k, .string nm, .slice a2 gs.length c2, .slice x2 ex.length d2] 32))
    have X9 := Lib.hid ((b9.block _ (blk X7.out).2.2).trans X7.out)
    have Y9 := Lib.hid ((b9.block _ (blk Y7.out).2.2).trans Y7.out)
    have RA9 := Lib.hid ((reads_of A7.out).below b9)
    have RE9 := Lib.hid ((readT_of E7.out).below b9)
    have RM9 := Lib.hid (RM7.out.below b9)
    have RN9 := Lib.hid (RN7.out.below b9)
    have RP9 := Lib.hid ((reads_of A2).below HBm.out)
    have RQ9 := Lib.hid ((readT_of E2).below HBm.out)
    have tz9 : (w8.alloc (.cells #[.int .i64 k, .string nm, .slice a2 gs.length c2, .slice x2 ex.length d2] 32)).heap.size = w8.heap.size + 1 := by simp
    obtain ⟨W9, hW9⟩ : ∃ W, w8.alloc (.cells #[.int .i64 k, .string nm, .slice a2 gs.length c2, .slice x2 ex.length d2] 32) = W := ⟨_, rfl⟩
    rw [hW9] at HB9 Z9 X9 Y9 RA9 RE9 RM9 RN9 RP9 RQ9 tz9
    have HW9 := Lib.hid hW9
    clear b8 b9 A2 E2 hW9 HBm X7 Y7 A7 E7 RM7 RN7 hd
    have e0 := (blk X9.out).1 0 _ rfl
    have e1 := (blk X9.out).1 1 _ rfl
    have e2 := (blk X9.out).1 2 _ rfl
    have e3 := (blk X9.out).1 3 _ rfl
    have g0 := (blk Z9.out).1 0 _ rfl
    have g1 := (blk Z9.out).1 1 _ rfl
    have g2 := (blk Z9.out).1 2 _ rfl
    have g3 := (blk Z9.out).1 3 _ rfl
    have mY := (blk Y9.out).2.2
    go_upto_region 16 with fail
    rw [HW9.out]
    go_wp2_with fail
    refine (l_eqLine k nm gs ex a2 a0 x2 x0 c2 c0 d2 d0 _ RP9.out RA9.out RQ9.out RE9.out (by omega) (by omega)).mono ?_
    rintro e w10 ⟨rfl, b10⟩
    have z10 := b10.size
    have HB10 : Hid (Below w.heap.size w w10) := Lib.hid (HB9.out.trans (b10.mono (by omega)))
    have Y10 := Lib.hid ((b10.block _ mY).trans Y9.out)
    have RM10 := Lib.hid (RM9.out.below b10)
    have RN10 := Lib.hid (RN9.out.below b10)
    clear b10 e0 e1 e2 e3 g0 g1 g2 g3 mY RA9 RE9 RM9 RN9 RP9 RQ9 X9 Y9 Z9 HW9
    have f0 := (blk Y10.out).1 0 _ rfl
    have f1 := (blk Y10.out).1 1 _ rfl
    have f2 := (blk Y10.out).1 2 _ rfl
    have f3 := (blk Y10.out).1 3 _ rfl
    have mY := (blk Y10.out).2.2
    go_wp2_with fail
    refine (l_heldLine k nm gs.length ex.length a1 x1 c1 d1 _ RM10.out RN10.out h4 (by omega)).mono ?_
    rintro e w11 ⟨rfl, b11⟩
    have HB11 : Hid (Below w.heap.size w w11) := Lib.hid (HB10.out.trans (b11.mono (by omega)))
    clear b11
    have hd : decide (((1 + gs.length + 3 * ex.length : Nat) : Int) < 0) = false := decide_eq_false (by omega)
    go_wp2
    go_ret
    exact ⟨rfl, HB11.out⟩
end Go.Proofs.YtbdplcbmfcfigaaGreatDoor.fnExactParseLine
