/- FetchOp, the model's and the program's. -/
import Derived.Test.YtakgjlpgcepnkaaGreatI12
import Derived.Test.YtakgjlpgcepnkaaGreatI13
import Derived.Test.YtakgjlpgcepnkaaGreatI02
namespace Go.Proofs.YtakgjlpgcepnkaaGreat
open Go.RowKit Go.Lib

/-- What FetchOp finds at a spot. -/
def fetA (x0 x1 : ImA) (p : Int × Int) : Option (OpL × Nat) := if p.1 < 0 then none else decZ (if p.1 = 0 then x0 else x1).s.data.toList p.2

set_option maxRecDepth 100000 in
set_option maxHeartbeats 4000000 in
theorem s_fetch (x0 x1 : ImA) (b0 b1 a : Int) (a0 a1 a2 : Option Addr) (c0 c1 c2 n2 : Nat) (w : World) (hI : ReadIms w a0 [x0, x1]) (hB : ReadI w a1 [b0, b1]) (l0 : 1 ≤ b0) (u0 : b0 ≤ 1000000) (l1 : 1 ≤ b1) (u1 : b1 ≤ 1000000) (z0 : x0.s.size ≤ 1048576) (z1 : x1.s.size ≤ 1048576) (ha : a ≤ 9223372036854775807) :
    Calls Tryz.prog 40 #[.agg #[.slice a0 2 c0, .slice a1 2 c1, .slice a2 n2 c2], .int .i64 a] w fun e w' => e = .returned (decV (fetA x0 x1 (spA x0 x1 b0 b1 a))) ∧ Below w.heap.size w w' := by
  have LC := Lib.hid (fun W (hb : Below w.heap.size w W) => s_l10Locate x0 x1 b0 b1 a a0 a1 a2 c0 c1 c2 n2 W (hI.below hb) (hB.below hb) l0 u0 l1 u1 z0 z1 ha)
  have D0 := Lib.hid (fun W po => s_dec7 x0.s po W (by omega))
  have D1 := Lib.hid (fun W po => s_dec7 x1.s po W (by omega))
  obtain ⟨pi, po, hpp, hcs⟩ : ∃ pi po, spA x0 x1 b0 b1 a = (pi, po) ∧ (pi = 0 ∨ pi = 1 ∨ (pi = -1 ∧ po = -1)) := by
    have SC := spot_cases b0 x0.s.size b1 x1.s.size a
    change (spA x0 x1 b0 b1 a = _ ∧ _) ∨ (spA x0 x1 b0 b1 a = _ ∧ _) ∨ (spA x0 x1 b0 b1 a = _ ∧ _) at SC
    rcases SC with ⟨h, _⟩ | ⟨h, _⟩ | ⟨h, _⟩
    · exact ⟨_, _, h, .inl rfl⟩
    · exact ⟨_, _, h, .inr (.inl rfl)⟩
    · exact ⟨_, _, h, .inr (.inr ⟨rfl, rfl⟩)⟩
  rw [hpp] at LC ⊢
  have F0 : Hid (pi = 0 → fetA x0 x1 (pi, po) = decZ x0.s.data.toList po) := Lib.hid (fun h => by subst h; rfl)
  have F1 : Hid (pi = 1 → fetA x0 x1 (pi, po) = decZ x1.s.data.toList po) := Lib.hid (fun h => by subst h; rfl)
  have F2 : Hid (pi = -1 → fetA x0 x1 (pi, po) = none) := Lib.hid (fun h => by subst h; rfl)
  obtain ⟨R, hR⟩ : ∃ R, fetA x0 x1 (pi, po) = R := ⟨_, rfl⟩
  rw [hR] at F0 F1 F2 ⊢
  obtain ⟨g, rfl, hg, HI, _⟩ := readIms2 hI
  have T2 := Lib.hid (two_new w (.cells #[.slice (some ⟨g, 0, none⟩) 2 c0, .slice a1 2 c1, .slice a2 n2 c2] 34) (.cells #[.int .i64 0, .int .i64 0] 75))
  obtain ⟨W0, hW0⟩ : ∃ W, (w.alloc (.cells #[.slice (some ⟨g, 0, none⟩) 2 c0, .slice a1 2 c1, .slice a2 n2 c2] 34)).alloc (.cells #[.int .i64 0, .int .i64 0] 75) = W := ⟨_, rfl⟩
  rw [hW0] at T2
  have HW0 := Lib.hid hW0
  have hzz : W0.heap.size = w.heap.size + 2 := T2.out.2.2.1
  have HX : Hid (∀ W, Below W0.heap.size W0 W → (W.cell? ⟨w.heap.size, 0, none⟩ = some (.slice (some ⟨g, 0, none⟩) 2 c0) ∧ W.cell? ⟨w.heap.size, 1, none⟩ = some (.slice a1 2 c1) ∧ W.cell? ⟨w.heap.size, 2, none⟩ = some (.slice a2 n2 c2)) ∧ (W.cell? ⟨g, 0, none⟩ = some (.string x0.s) ∧ W.cell? ⟨g, 2, none⟩ = some (.string x1.s)) ∧ W.heap[w.heap.size + 1]? = some (.cells #[.int .i64 0, .int .i64 0] 75 (0, 0)) ∧ Below w.heap.size w W) := Lib.hid (fun W hb => by
    have b' : Below w.heap.size w W := T2.out.2.2.2.trans (hb.mono (by omega))
    have hn := (hb.block w.heap.size (by omega)).trans T2.out.1
    have hn1 := (hb.block (w.heap.size + 1) (by omega)).trans T2.out.2.1
    exact ⟨⟨(blk hn).1 0 _ rfl, (blk hn).1 1 _ rfl, (blk hn).1 2 _ rfl⟩, ⟨(b'.cell (p := ⟨g, 0, none⟩) hg).trans HI.1, (b'.cell (p := ⟨g, 2, none⟩) hg).trans HI.2.2.1⟩, hn1, b'⟩)
  have HB0 : Hid (Below w.heap.size w W0) := Lib.hid T2.out.2.2.2
  have ZZ : Hid (W0.heap.size = w.heap.size + 2) := Lib.hid hzz
  have HG := Lib.hid hg
  clear hI hB HI hg T2 hW0 hpp hR hzz
  obtain ⟨x0s, x0l, x0a, x0c⟩ := x0
  obtain ⟨x1s, x1l, x1a, x1c⟩ := x1
  dsimp only at *
  obtain ⟨⟨e0, e1, e2⟩, _, hr0, _⟩ := HX.out W0 (Below.refl _ _)
  clear hr0
  unfold locV at LC
  dsimp only at LC
  rcases hcs with rfl | rfl | ⟨rfl, rfl⟩
  · have HR := Lib.hid (F0.out rfl)
    have DQ := Lib.hid (fun W => D0.out W po)
    rw [← HR.out] at DQ
    obtain ⟨rc, ra, rn, rb, hrv⟩ := decV_shape R
    rw [hrv] at DQ ⊢
    clear F0 F1 F2 D0 D1 HR hrv
    go_enter Tryz.func40, Tryz.ntmps40
    go_upto_region 1 with fail
    rw [HW0.out]
    go_wp2_with fail
    refine (LC.out _ HB0.out).mono ?_
    rintro e w1 ⟨rfl, b1⟩
    have B1 : Hid (Below W0.heap.size W0 w1) := Lib.hid (b1.mono (Nat.le_refl _))
    clear b1 e0 e1 e2
    obtain ⟨⟨e0, e1, e2⟩, ⟨i0, i1⟩, hr, _⟩ := HX.out w1 B1.out
    clear hr
    go_wp2_with fail
    refine (DQ.out _).mono ?_
    rintro e w2 ⟨rfl, b2⟩
    have B2 : Hid (Below W0.heap.size W0 w2) := Lib.hid (B1.out.trans (b2.mono B1.out.size))
    clear b2 e0 e1 e2 i0 i1
    obtain ⟨W3, hW3⟩ : ∃ W, w2.alloc (.cells #[.int .i64 rc, .int .i64 ra] 75) = W := ⟨_, rfl⟩
    have B3 : Hid (Below W0.heap.size W0 W3) := Lib.hid (hW3 ▸ B2.out.alloc B2.out.size _)
    have P3 : Hid (W3.heap[w2.heap.size]? = some (.cells #[.int .i64 rc, .int .i64 ra] 75 (0, 0))) := Lib.hid (by rw [← hW3]; exact heap_alloc_new w2 _)
    have HW3 := Lib.hid hW3
    clear hW3
    go_upto_region 5 with fail
    rw [HW3.out]
    obtain ⟨_, _, hr, HBW⟩ := HX.out W3 B3.out
    have HBW := Lib.hid HBW
    have r0 := (blk hr).1 0 _ rfl
    have r1 := (blk hr).1 1 _ rfl
    have f0 := (blk hr).2.1 0
    have f1 := (blk hr).2.1 1
    have q0 := (blk P3.out).1 0 _ rfl
    have q1 := (blk P3.out).1 1 _ rfl
    clear hr
    go_wp2
    refine bodyPost_ret (v := .tuple #[.agg #[.int .i64 rc, .int .i64 ra], .int .i64 rn, .bool rb]) (by simp [results, Tryz.results40, go_sem, r0, r1]) rfl ⟨rfl, (HBW.out.setCell (by simp) _).setCell (by simp) _⟩
  · have HR := Lib.hid (F1.out rfl)
    have DQ := Lib.hid (fun W => D1.out W po)
    rw [← HR.out] at DQ
    obtain ⟨rc, ra, rn, rb, hrv⟩ := decV_shape R
    rw [hrv] at DQ ⊢
    clear F0 F1 F2 D0 D1 HR hrv
    go_enter Tryz.func40, Tryz.ntmps40
    go_upto_region 1 with fail
    rw [HW0.out]
    go_wp2_with fail
    refine (LC.out _ HB0.out).mono ?_
    rintro e w1 ⟨rfl, b1⟩
    have B1 : Hid (Below W0.heap.size W0 w1) := Lib.hid (b1.mono (Nat.le_refl _))
    clear b1 e0 e1 e2
    obtain ⟨⟨e0, e1, e2⟩, ⟨i0, i1⟩, hr, _⟩ := HX.out w1 B1.out
    clear hr
    go_wp2_with fail
    refine (DQ.out _).mono ?_
    rintro e w2 ⟨rfl, b2⟩
    have B2 : Hid (Below W0.heap.size W0 w2) := Lib.hid (B1.out.trans (b2.mono B1.out.size))
    clear b2 e0 e1 e2 i0 i1
    obtain ⟨W3, hW3⟩ : ∃ W, w2.alloc (.cells #[.int .i64 rc, .int .i64 ra] 75) = W := ⟨_, rfl⟩
    have B3 : Hid (Below W0.heap.size W0 W3) := Lib.hid (hW3 ▸ B2.out.alloc B2.out.size _)
    have P3 : Hid (W3.heap[w2.heap.size]? = some (.cells #[.int .i64 rc, .int .i64 ra] 75 (0, 0))) := Lib.hid (by rw [← hW3]; exact heap_alloc_new w2 _)
    have HW3 := Lib.hid hW3
    clear hW3
    go_upto_region 5 with fail
    rw [HW3.out]
    obtain ⟨_, _, hr, HBW⟩ := HX.out W3 B3.out
    have HBW := Lib.hid HBW
    have r0 := (blk hr).1 0 _ rfl
    have r1 := (blk hr).1 1 _ rfl
    have f0 := (blk hr).2.1 0
    have f1 := (blk hr).2.1 1
    have q0 := (blk P3.out).1 0 _ rfl
    have q1 := (blk P3.out).1 1 _ rfl
    clear hr
    go_wp2
    refine bodyPost_ret (v := .tuple #[.agg #[.int .i64 rc, .int .i64 ra], .int .i64 rn, .bool rb]) (by simp [results, Tryz.results40, go_sem, r0, r1]) rfl ⟨rfl, (HBW.out.setCell (by simp) _).setCell (by simp) _⟩
  · have HR := Lib.hid (F2.out rfl)
    clear F0 F1 F2 D0 D1
    go_enter Tryz.func40, Tryz.ntmps40
    go_upto_region 1 with fail
    rw [HW0.out]
    go_wp2_with fail
    refine (LC.out _ HB0.out).mono ?_
    rintro e w1 ⟨rfl, b1⟩
    have B1 : Hid (Below W0.heap.size W0 w1) := Lib.hid (b1.mono (Nat.le_refl _))
    clear b1 e0 e1 e2
    obtain ⟨_, _, hr, HBW⟩ := HX.out w1 B1.out
    have HBW := Lib.hid HBW
    have r0 := (blk hr).1 0 _ rfl
    have r1 := (blk hr).1 1 _ rfl
    have f0 := (blk hr).2.1 0
    have f1 := (blk hr).2.1 1
    clear hr
    go_wp2
    refine bodyPost_ret (v := .tuple #[.agg #[.int .i64 0, .int .i64 0], .int .i64 0, .bool false]) (by simp [results, Tryz.results40, go_sem, r0, r1]) rfl ⟨by rw [HR.out]; rfl, (HBW.out.setCell (by simp) _).setCell (by simp) _⟩

set_option maxRecDepth 100000 in
set_option maxHeartbeats 4000000 in
theorem i_fetch (x0 x1 : ImA) (b0 b1 a : Int) (a0 a1 a2 : Option Addr) (c0 c1 c2 n2 : Nat) (w : World) (hI : ReadIms w a0 [x0, x1]) (hB : ReadI w a1 [b0, b1]) (l0 : 1 ≤ b0) (u0 : b0 ≤ 1000000) (l1 : 1 ≤ b1) (u1 : b1 ≤ 1000000) (z0 : x0.s.size ≤ 1048576) (z1 : x1.s.size ≤ 1048576) :
    Calls Tryz.prog 51 #[.agg #[.slice a0 2 c0, .slice a1 2 c1, .slice a2 n2 c2], .int .i64 a] w fun e w' => e = .returned (decV (fetA x0 x1 (spA x0 x1 b0 b1 a))) ∧ Below w.heap.size w w' := by
  have LC := Lib.hid (fun W (hb : Below w.heap.size w W) => i_spot x0 x1 b0 b1 a a0 a1 a2 c0 c1 c2 n2 W (hI.below hb) (hB.below hb) l0 u0 l1 u1 z0 z1)
  have D0 := Lib.hid (fun W po => i_dec7 x0.s po W (by omega))
  have D1 := Lib.hid (fun W po => i_dec7 x1.s po W (by omega))
  obtain ⟨pi, po, hpp, hcs⟩ : ∃ pi po, spA x0 x1 b0 b1 a = (pi, po) ∧ (pi = 0 ∨ pi = 1 ∨ (pi = -1 ∧ po = -1)) := by
    have SC := spot_cases b0 x0.s.size b1 x1.s.size a
    change (spA x0 x1 b0 b1 a = _ ∧ _) ∨ (spA x0 x1 b0 b1 a = _ ∧ _) ∨ (spA x0 x1 b0 b1 a = _ ∧ _) at SC
    rcases SC with ⟨h, _⟩ | ⟨h, _⟩ | ⟨h, _⟩
    · exact ⟨_, _, h, .inl rfl⟩
    · exact ⟨_, _, h, .inr (.inl rfl)⟩
    · exact ⟨_, _, h, .inr (.inr ⟨rfl, rfl⟩)⟩
  rw [hpp] at LC ⊢
  have F0 : Hid (pi = 0 → fetA x0 x1 (pi, po) = decZ x0.s.data.toList po) := Lib.hid (fun h => by subst h; rfl)
  have F1 : Hid (pi = 1 → fetA x0 x1 (pi, po) = decZ x1.s.data.toList po) := Lib.hid (fun h => by subst h; rfl)
  have F2 : Hid (pi = -1 → fetA x0 x1 (pi, po) = none) := Lib.hid (fun h => by subst h; rfl)
  obtain ⟨R, hR⟩ : ∃ R, fetA x0 x1 (pi, po) = R := ⟨_, rfl⟩
  rw [hR] at F0 F1 F2 ⊢
  obtain ⟨g, rfl, hg, HI, _⟩ := readIms2 hI
  have T2 := Lib.hid (two_new w (.cells #[.slice (some ⟨g, 0, none⟩) 2 c0, .slice a1 2 c1, .slice a2 n2 c2] 34) (.cells #[.int .i64 0, .int .i64 0] 75))
  obtain ⟨W0, hW0⟩ : ∃ W, (w.alloc (.cells #[.slice (some ⟨g, 0, none⟩) 2 c0, .slice a1 2 c1, .slice a2 n2 c2] 34)).alloc (.cells #[.int .i64 0, .int .i64 0] 75) = W := ⟨_, rfl⟩
  rw [hW0] at T2
  have HW0 := Lib.hid hW0
  have hzz : W0.heap.size = w.heap.size + 2 := T2.out.2.2.1
  have HX : Hid (∀ W, Below W0.heap.size W0 W → (W.cell? ⟨w.heap.size, 0, none⟩ = some (.slice (some ⟨g, 0, none⟩) 2 c0) ∧ W.cell? ⟨w.heap.size, 1, none⟩ = some (.slice a1 2 c1) ∧ W.cell? ⟨w.heap.size, 2, none⟩ = some (.slice a2 n2 c2)) ∧ (W.cell? ⟨g, 0, none⟩ = some (.string x0.s) ∧ W.cell? ⟨g, 2, none⟩ = some (.string x1.s)) ∧ W.heap[w.heap.size + 1]? = some (.cells #[.int .i64 0, .int .i64 0] 75 (0, 0)) ∧ Below w.heap.size w W) := Lib.hid (fun W hb => by
    have b' : Below w.heap.size w W := T2.out.2.2.2.trans (hb.mono (by omega))
    have hn := (hb.block w.heap.size (by omega)).trans T2.out.1
    have hn1 := (hb.block (w.heap.size + 1) (by omega)).trans T2.out.2.1
    exact ⟨⟨(blk hn).1 0 _ rfl, (blk hn).1 1 _ rfl, (blk hn).1 2 _ rfl⟩, ⟨(b'.cell (p := ⟨g, 0, none⟩) hg).trans HI.1, (b'.cell (p := ⟨g, 2, none⟩) hg).trans HI.2.2.1⟩, hn1, b'⟩)
  have HB0 : Hid (Below w.heap.size w W0) := Lib.hid T2.out.2.2.2
  have ZZ : Hid (W0.heap.size = w.heap.size + 2) := Lib.hid hzz
  have HG := Lib.hid hg
  clear hI hB HI hg T2 hW0 hpp hR hzz
  obtain ⟨x0s, x0l, x0a, x0c⟩ := x0
  obtain ⟨x1s, x1l, x1a, x1c⟩ := x1
  dsimp only at *
  obtain ⟨⟨e0, e1, e2⟩, _, hr0, _⟩ := HX.out W0 (Below.refl _ _)
  clear hr0
  rcases hcs with rfl | rfl | ⟨rfl, rfl⟩
  · have HR := Lib.hid (F0.out rfl)
    have DQ := Lib.hid (fun W => D0.out W po)
    rw [← HR.out] at DQ
    obtain ⟨rc, ra, rn, rb, hrv⟩ := decV_shape R
    rw [hrv] at DQ ⊢
    have LC2 : Hid (∀ W, Below w.heap.size w W → Calls Tryz.prog 49 #[.agg #[.slice (some ⟨g, 0, none⟩) 2 c0, .slice a1 2 c1, .slice a2 n2 c2], .int .i64 a] W fun e w' => e = .returned (.tuple #[.agg #[.int .i64 0, .int .i64 po], .bool true]) ∧ Below W.heap.size W w') := Lib.hid (fun W hb => by have h := LC.out W hb; rw [spotV_yes (show ¬ (0 : Int) < 0 by omega)] at h; exact h)
    clear F0 F1 F2 D0 D1 HR hrv LC
    go_enter Tryz.func51, Tryz.ntmps51
    go_upto_region 1 with fail
    rw [HW0.out]
    go_wp2_with fail
    refine (LC2.out _ HB0.out).mono ?_
    rintro e w1 ⟨rfl, b1⟩
    have B1 : Hid (Below W0.heap.size W0 w1) := Lib.hid (b1.mono (Nat.le_refl _))
    clear b1 e0 e1 e2
    obtain ⟨W2, hW2⟩ : ∃ W, w1.alloc (.cells #[.int .i64 0, .int .i64 po] 84) = W := ⟨_, rfl⟩
    have B2 : Hid (Below w1.heap.size w1 W2) := Lib.hid (hW2 ▸ (Below.refl _ _).alloc (Nat.le_refl _) _)
    have P2 : Hid (W2.heap[w1.heap.size]? = some (.cells #[.int .i64 0, .int .i64 po] 84 (0, 0))) := Lib.hid (by rw [← hW2]; exact heap_alloc_new w1 _)
    have HW2 := Lib.hid hW2
    have BX : Hid (∀ W, Below W2.heap.size W2 W → Below W0.heap.size W0 W) := Lib.hid (fun W hb => B1.out.trans ((B2.out.trans (hb.mono B2.out.size)).mono B1.out.size))
    have KP : Hid (∀ W, Below W2.heap.size W2 W → ((W.cell? ⟨w.heap.size, 0, none⟩ = some (.slice (some ⟨g, 0, none⟩) 2 c0) ∧ W.cell? ⟨w.heap.size, 1, none⟩ = some (.slice a1 2 c1) ∧ W.cell? ⟨w.heap.size, 2, none⟩ = some (.slice a2 n2 c2)) ∧ (W.cell? ⟨g, 0, none⟩ = some (.string x0s)) ∧ (W.cell? ⟨w1.heap.size, 0, none⟩ = some (.int .i64 0) ∧ W.cell? ⟨w1.heap.size, 1, none⟩ = some (.int .i64 po)))) := Lib.hid (fun W hb => by
      obtain ⟨q1, q2, q3, _⟩ := HX.out W (BX.out W hb)
      have h3 := (hb.block w1.heap.size (blk P2.out).2.2).trans P2.out
      exact ⟨q1, q2.1, (blk h3).1 0 _ rfl, (blk h3).1 1 _ rfl⟩)
    have KR : Hid (∀ W, Below W2.heap.size W2 W → (W.cell? ⟨w.heap.size + 1, 0, none⟩ = some (.int .i64 0) ∧ W.cell? ⟨w.heap.size + 1, 1, none⟩ = some (.int .i64 0)) ∧ (W.frozen? ⟨w.heap.size + 1, 0, none⟩ = false ∧ W.frozen? ⟨w.heap.size + 1, 1, none⟩ = false)) := Lib.hid (fun W hb => by
      obtain ⟨q1, q2, q3, _⟩ := HX.out W (BX.out W hb)
      exact ⟨⟨(blk q3).1 0 _ rfl, (blk q3).1 1 _ rfl⟩, (blk q3).2.1 0, (blk q3).2.1 1⟩)
    have HGW : Hid (g < w.heap.size ∧ w.heap.size + 1 < w1.heap.size) := Lib.hid ⟨HG.out, by have h := B1.out.size; rw [ZZ.out] at h; omega⟩
    have HBF : Hid (∀ W, Below W2.heap.size W2 W → Below w.heap.size w W) := Lib.hid (fun W hb => (HX.out W (BX.out W hb)).2.2.2)
    clear hW2
    go_upto_region 4 with fail
    rw [HW2.out]
    clear HW2 HW0
    refine E_start (S := (fun W => ((W.cell? ⟨w.heap.size, 0, none⟩ = some (.slice (some ⟨g, 0, none⟩) 2 c0) ∧ W.cell? ⟨w.heap.size, 1, none⟩ = some (.slice a1 2 c1) ∧ W.cell? ⟨w.heap.size, 2, none⟩ = some (.slice a2 n2 c2)) ∧ (W.cell? ⟨g, 0, none⟩ = some (.string x0s)) ∧ (W.cell? ⟨w1.heap.size, 0, none⟩ = some (.int .i64 0) ∧ W.cell? ⟨w1.heap.size, 1, none⟩ = some (.int .i64 po))))) 15 (by kernel_rfl) (KP.out _ (Below.refl W2.heap.size W2).drew) (fun hHeld => ?_)
    refine E_take (i := 0) (oi := _) (v := ?_) rfl (by kernel_rfl) (fun _ _ _ h => h) ?_ (by assumption) ?_
    rotate_left 1
    · (refine Or.inl ⟨by rfl, ?_⟩; intro w hSw; (try dsimp only at hSw); (try simp only [List.getElem_toArray, List.getElem_cons_zero, List.getElem_cons_succ]); go_simp; (first | done | with_reducible rfl))
    try simp only [Act.put, List.setIfInBounds_toArray, List.set_cons_zero, List.set_cons_succ, List.getElem_toArray, List.getElem_cons_zero, List.getElem_cons_succ]
    refine E_take (i := 1) (oi := _) (v := ?_) rfl (by kernel_rfl) (fun _ _ _ h => h) ?_ (by assumption) ?_
    rotate_left 1
    · (refine Or.inl ⟨by rfl, ?_⟩; intro w hSw; (try dsimp only at hSw); (try simp only [List.getElem_toArray, List.getElem_cons_zero, List.getElem_cons_succ]); go_simp; (first | done | with_reducible rfl))
    try simp only [Act.put, List.setIfInBounds_toArray, List.set_cons_zero, List.set_cons_succ, List.getElem_toArray, List.getElem_cons_zero, List.getElem_cons_succ]
    refine E_take (i := 2) (oi := _) (v := ?_) rfl (by kernel_rfl) (fun _ _ _ h => h) ?_ (by assumption) ?_
    rotate_left 1
    · (refine Or.inl ⟨by rfl, ?_⟩; intro w hSw; (try dsimp only at hSw); (try simp only [List.getElem_toArray, List.getElem_cons_zero, List.getElem_cons_succ]); go_simp; (first | done | with_reducible rfl))
    try simp only [Act.put, List.setIfInBounds_toArray, List.set_cons_zero, List.set_cons_succ, List.getElem_toArray, List.getElem_cons_zero, List.getElem_cons_succ]
    refine E_take (i := 3) (oi := _) (v := ?_) rfl (by kernel_rfl) (fun _ _ _ h => h) ?_ (by assumption) ?_
    rotate_left 1
    · (refine Or.inl ⟨by rfl, ?_⟩; intro w hSw; (try dsimp only at hSw); (try simp only [List.getElem_toArray, List.getElem_cons_zero, List.getElem_cons_succ]); go_simp; (first | done | with_reducible rfl))
    try simp only [Act.put, List.setIfInBounds_toArray, List.set_cons_zero, List.set_cons_succ, List.getElem_toArray, List.getElem_cons_zero, List.getElem_cons_succ]
    refine E_take (i := 4) (oi := _) (v := ?_) rfl (by kernel_rfl) (fun _ _ _ h => h) ?_ (by assumption) ?_
    rotate_left 1
    · (refine Or.inl ⟨by rfl, ?_⟩; intro w hSw; (try dsimp only at hSw); (try simp only [List.getElem_toArray, List.getElem_cons_zero, List.getElem_cons_succ]); go_simp; (first | done | with_reducible rfl))
    try simp only [Act.put, List.setIfInBounds_toArray, List.set_cons_zero, List.set_cons_succ, List.getElem_toArray, List.getElem_cons_zero, List.getElem_cons_succ]
    refine E_take (i := 5) (oi := _) (v := ?_) rfl (by kernel_rfl) (fun _ _ _ h => h) ?_ (by assumption) ?_
    rotate_left 1
    · (refine Or.inl ⟨by rfl, ?_⟩; intro w hSw; (try dsimp only at hSw); (try simp only [List.getElem_toArray, List.getElem_cons_zero, List.getElem_cons_succ]); go_simp; (first | done | with_reducible rfl))
    try simp only [Act.put, List.setIfInBounds_toArray, List.set_cons_zero, List.set_cons_succ, List.getElem_toArray, List.getElem_cons_zero, List.getElem_cons_succ]
    refine E_take (i := 6) (oi := _) (v := ?_) rfl (by kernel_rfl) (fun _ _ _ h => h) ?_ (by assumption) ?_
    rotate_left 1
    · (refine Or.inl ⟨by rfl, ?_⟩; intro w hSw; (try dsimp only at hSw); (try simp only [List.getElem_toArray, List.getElem_cons_zero, List.getElem_cons_succ]); go_simp; (first | done | with_reducible rfl))
    try simp only [Act.put, List.setIfInBounds_toArray, List.set_cons_zero, List.set_cons_succ, List.getElem_toArray, List.getElem_cons_zero, List.getElem_cons_succ]
    refine E_take (i := 7) (oi := _) (v := ?_) rfl (by kernel_rfl) (fun _ _ _ h => h) ?_ (by assumption) ?_
    rotate_left 1
    · (refine Or.inl ⟨by rfl, ?_⟩; intro w hSw; (try dsimp only at hSw); (try simp only [List.getElem_toArray, List.getElem_cons_zero, List.getElem_cons_succ]); go_simp; (first | done | with_reducible rfl))
    try simp only [Act.put, List.setIfInBounds_toArray, List.set_cons_zero, List.set_cons_succ, List.getElem_toArray, List.getElem_cons_zero, List.getElem_cons_succ]
    refine E_take (i := 8) (oi := _) (v := ?_) rfl (by kernel_rfl) (fun _ _ _ h => h) ?_ (by assumption) ?_
    rotate_left 1
    · (refine Or.inl ⟨by rfl, ?_⟩; intro w hSw; (try dsimp only at hSw); (try simp only [List.getElem_toArray, List.getElem_cons_zero, List.getElem_cons_succ]); go_simp; (first | done | with_reducible rfl))
    try simp only [Act.put, List.setIfInBounds_toArray, List.set_cons_zero, List.set_cons_succ, List.getElem_toArray, List.getElem_cons_zero, List.getElem_cons_succ]
    refine E_ready (rs := [9]) (by kernel_rfl) (by decide) ?_
    refine AllE.cons (o := _) rfl (fun K hK => ?_) AllE.nil
    try simp only [List.getElem_toArray, List.getElem_cons_zero, List.getElem_cons_succ]
    go_simp
    refine (DQ.out _).mono ?_
    rintro e w5 ⟨rfl, b5⟩
    go_wp2_with fail
    refine hK.out _ _ (KP.out _ (undrew b5)) (fun hHeld => ?_)
    clear hK K
    try simp only [Act.put, List.setIfInBounds_toArray, List.set_cons_zero, List.set_cons_succ, List.getElem_toArray, List.getElem_cons_zero, List.getElem_cons_succ]
    refine E_take (i := 10) (oi := _) (v := ?_) rfl (by kernel_rfl) (fun _ _ _ h => h) ?_ (by assumption) ?_
    rotate_left 1
    · (refine Or.inl ⟨by rfl, ?_⟩; intro w hSw; (try dsimp only at hSw); (try simp only [List.getElem_toArray, List.getElem_cons_zero, List.getElem_cons_succ]); go_simp; (first | done | with_reducible rfl))
    try simp only [Act.put, List.setIfInBounds_toArray, List.set_cons_zero, List.set_cons_succ, List.getElem_toArray, List.getElem_cons_zero, List.getElem_cons_succ]
    refine E_take (i := 11) (oi := _) (v := ?_) rfl (by kernel_rfl) (fun _ _ _ h => h) ?_ (by assumption) ?_
    rotate_left 1
    · (refine Or.inl ⟨by rfl, ?_⟩; intro w hSw; (try dsimp only at hSw); (try simp only [List.getElem_toArray, List.getElem_cons_zero, List.getElem_cons_succ]); go_simp; (first | done | with_reducible rfl))
    try simp only [Act.put, List.setIfInBounds_toArray, List.set_cons_zero, List.set_cons_succ, List.getElem_toArray, List.getElem_cons_zero, List.getElem_cons_succ]
    refine E_take (i := 12) (oi := _) (v := ?_) rfl (by kernel_rfl) (fun _ _ _ h => h) ?_ (by assumption) ?_
    rotate_left 1
    · (refine Or.inl ⟨by rfl, ?_⟩; intro w hSw; (try dsimp only at hSw); (try simp only [List.getElem_toArray, List.getElem_cons_zero, List.getElem_cons_succ]); go_simp; (first | done | with_reducible rfl))
    try simp only [Act.put, List.setIfInBounds_toArray, List.set_cons_zero, List.set_cons_succ, List.getElem_toArray, List.getElem_cons_zero, List.getElem_cons_succ]
    obtain ⟨⟨y6, y7⟩, y8, y9⟩ := KR.out _ (undrew b5)
    have SST : Hid (∀ W : World, (∀ b, b ≠ w.heap.size + 1 → W.heap[b]? = w5.heap[b]?) → ((W.cell? ⟨w.heap.size, 0, none⟩ = some (.slice (some ⟨g, 0, none⟩) 2 c0) ∧ W.cell? ⟨w.heap.size, 1, none⟩ = some (.slice a1 2 c1) ∧ W.cell? ⟨w.heap.size, 2, none⟩ = some (.slice a2 n2 c2)) ∧ (W.cell? ⟨g, 0, none⟩ = some (.string x0s)) ∧ (W.cell? ⟨w1.heap.size, 0, none⟩ = some (.int .i64 0) ∧ W.cell? ⟨w1.heap.size, 1, none⟩ = some (.int .i64 po)))) := Lib.hid (fun W hb => by
      obtain ⟨⟨s1, s2, s3⟩, s4, s5, s6⟩ := KP.out _ (undrew b5)
      have e1 := hb w.heap.size (by omega)
      have e2 := hb g (by have := HGW.out; omega)
      have e3 := hb w1.heap.size (by have := HGW.out; omega)
      exact ⟨⟨(World.cell?_of_block (a := ⟨w.heap.size, 0, none⟩) e1).trans s1, (World.cell?_of_block (a := ⟨w.heap.size, 1, none⟩) e1).trans s2, (World.cell?_of_block (a := ⟨w.heap.size, 2, none⟩) e1).trans s3⟩, (World.cell?_of_block (a := ⟨g, 0, none⟩) e2).trans s4, (World.cell?_of_block (a := ⟨w1.heap.size, 0, none⟩) e3).trans s5, (World.cell?_of_block (a := ⟨w1.heap.size, 1, none⟩) e3).trans s6⟩)
    refine E_ready (rs := [13]) (by kernel_rfl) (by decide) ?_
    refine AllE.cons (o := _) rfl (fun K hK => ?_) AllE.nil
    try simp only [List.getElem_toArray, List.getElem_cons_zero, List.getElem_cons_succ]
    go_simp
    refine hK.out _ _ (SST.out _ (fun b hb => (set_other hb).trans (set_other hb))) (fun hHeld => ?_)
    clear hK K
    try simp only [Act.put, List.setIfInBounds_toArray, List.set_cons_zero, List.set_cons_succ, List.getElem_toArray, List.getElem_cons_zero, List.getElem_cons_succ]
    refine E_ready (rs := [14]) (by kernel_rfl) (by decide) ?_
    refine AllE.cons (o := _) rfl (fun K hK => ?_) AllE.nil
    try simp only [List.getElem_toArray, List.getElem_cons_zero, List.getElem_cons_succ]
    go_simp
    refine hK.out _ _ (SST.out _ (fun b hb => (set_other hb).trans (set_other hb))) (fun hHeld => ?_)
    clear hK K
    try simp only [Act.put, List.setIfInBounds_toArray, List.set_cons_zero, List.set_cons_succ, List.getElem_toArray, List.getElem_cons_zero, List.getElem_cons_succ]
    refine E_last (o := _) (by kernel_rfl) rfl (by kernel_rfl) (fun K hK => ?_)
    try simp only [List.getElem_toArray, List.getElem_cons_zero, List.getElem_cons_succ]
    go_simp
    refine hK.out _ _ ?_
    clear hK K
    have HB5 := Lib.hid (HBF.out _ (undrew b5))
    clear b5
    go_wp2
    refine bodyPost_ret (v := .tuple #[.agg #[.int .i64 rc, .int .i64 ra], .int .i64 rn, .bool rb]) (by simp [results, Tryz.results51, go_sem, y6, y7]) rfl ⟨rfl, (HB5.out.setCell (by simp; try omega) _).setCell (by simp; try omega) _⟩
  · have HR := Lib.hid (F1.out rfl)
    have DQ := Lib.hid (fun W => D1.out W po)
    rw [← HR.out] at DQ
    obtain ⟨rc, ra, rn, rb, hrv⟩ := decV_shape R
    rw [hrv] at DQ ⊢
    have LC2 : Hid (∀ W, Below w.heap.size w W → Calls Tryz.prog 49 #[.agg #[.slice (some ⟨g, 0, none⟩) 2 c0, .slice a1 2 c1, .slice a2 n2 c2], .int .i64 a] W fun e w' => e = .returned (.tuple #[.agg #[.int .i64 1, .int .i64 po], .bool true]) ∧ Below W.heap.size W w') := Lib.hid (fun W hb => by have h := LC.out W hb; rw [spotV_yes (show ¬ (1 : Int) < 0 by omega)] at h; exact h)
    clear F0 F1 F2 D0 D1 HR hrv LC
    go_enter Tryz.func51, Tryz.ntmps51
    go_upto_region 1 with fail
    rw [HW0.out]
    go_wp2_with fail
    refine (LC2.out _ HB0.out).mono ?_
    rintro e w1 ⟨rfl, b1⟩
    have B1 : Hid (Below W0.heap.size W0 w1) := Lib.hid (b1.mono (Nat.le_refl _))
    clear b1 e0 e1 e2
    obtain ⟨W2, hW2⟩ : ∃ W, w1.alloc (.cells #[.int .i64 1, .int .i64 po] 84) = W := ⟨_, rfl⟩
    have B2 : Hid (Below w1.heap.size w1 W2) := Lib.hid (hW2 ▸ (Below.refl _ _).alloc (Nat.le_refl _) _)
    have P2 : Hid (W2.heap[w1.heap.size]? = some (.cells #[.int .i64 1, .int .i64 po] 84 (0, 0))) := Lib.hid (by rw [← hW2]; exact heap_alloc_new w1 _)
    have HW2 := Lib.hid hW2
    have BX : Hid (∀ W, Below W2.heap.size W2 W → Below W0.heap.size W0 W) := Lib.hid (fun W hb => B1.out.trans ((B2.out.trans (hb.mono B2.out.size)).mono B1.out.size))
    have KP : Hid (∀ W, Below W2.heap.size W2 W → ((W.cell? ⟨w.heap.size, 0, none⟩ = some (.slice (some ⟨g, 0, none⟩) 2 c0) ∧ W.cell? ⟨w.heap.size, 1, none⟩ = some (.slice a1 2 c1) ∧ W.cell? ⟨w.heap.size, 2, none⟩ = some (.slice a2 n2 c2)) ∧ (W.cell? ⟨g, 2, none⟩ = some (.string x1s)) ∧ (W.cell? ⟨w1.heap.size, 0, none⟩ = some (.int .i64 1) ∧ W.cell? ⟨w1.heap.size, 1, none⟩ = some (.int .i64 po)))) := Lib.hid (fun W hb => by
      obtain ⟨q1, q2, q3, _⟩ := HX.out W (BX.out W hb)
      have h3 := (hb.block w1.heap.size (blk P2.out).2.2).trans P2.out
      exact ⟨q1, q2.2, (blk h3).1 0 _ rfl, (blk h3).1 1 _ rfl⟩)
    have KR : Hid (∀ W, Below W2.heap.size W2 W → (W.cell? ⟨w.heap.size + 1, 0, none⟩ = some (.int .i64 0) ∧ W.cell? ⟨w.heap.size + 1, 1, none⟩ = some (.int .i64 0)) ∧ (W.frozen? ⟨w.heap.size + 1, 0, none⟩ = false ∧ W.frozen? ⟨w.heap.size + 1, 1, none⟩ = false)) := Lib.hid (fun W hb => by
      obtain ⟨q1, q2, q3, _⟩ := HX.out W (BX.out W hb)
      exact ⟨⟨(blk q3).1 0 _ rfl, (blk q3).1 1 _ rfl⟩, (blk q3).2.1 0, (blk q3).2.1 1⟩)
    have HGW : Hid (g < w.heap.size ∧ w.heap.size + 1 < w1.heap.size) := Lib.hid ⟨HG.out, by have h := B1.out.size; rw [ZZ.out] at h; omega⟩
    have HBF : Hid (∀ W, Below W2.heap.size W2 W → Below w.heap.size w W) := Lib.hid (fun W hb => (HX.out W (BX.out W hb)).2.2.2)
    clear hW2
    go_upto_region 4 with fail
    rw [HW2.out]
    clear HW2 HW0
    refine E_start (S := (fun W => ((W.cell? ⟨w.heap.size, 0, none⟩ = some (.slice (some ⟨g, 0, none⟩) 2 c0) ∧ W.cell? ⟨w.heap.size, 1, none⟩ = some (.slice a1 2 c1) ∧ W.cell? ⟨w.heap.size, 2, none⟩ = some (.slice a2 n2 c2)) ∧ (W.cell? ⟨g, 2, none⟩ = some (.string x1s)) ∧ (W.cell? ⟨w1.heap.size, 0, none⟩ = some (.int .i64 1) ∧ W.cell? ⟨w1.heap.size, 1, none⟩ = some (.int .i64 po))))) 15 (by kernel_rfl) (KP.out _ (Below.refl W2.heap.size W2).drew) (fun hHeld => ?_)
    refine E_take (i := 0) (oi := _) (v := ?_) rfl (by kernel_rfl) (fun _ _ _ h => h) ?_ (by assumption) ?_
    rotate_left 1
    · (refine Or.inl ⟨by rfl, ?_⟩; intro w hSw; (try dsimp only at hSw); (try simp only [List.getElem_toArray, List.getElem_cons_zero, List.getElem_cons_succ]); go_simp; (first | done | with_reducible rfl))
    try simp only [Act.put, List.setIfInBounds_toArray, List.set_cons_zero, List.set_cons_succ, List.getElem_toArray, List.getElem_cons_zero, List.getElem_cons_succ]
    refine E_take (i := 1) (oi := _) (v := ?_) rfl (by kernel_rfl) (fun _ _ _ h => h) ?_ (by assumption) ?_
    rotate_left 1
    · (refine Or.inl ⟨by rfl, ?_⟩; intro w hSw; (try dsimp only at hSw); (try simp only [List.getElem_toArray, List.getElem_cons_zero, List.getElem_cons_succ]); go_simp; (first | done | with_reducible rfl))
    try simp only [Act.put, List.setIfInBounds_toArray, List.set_cons_zero, List.set_cons_succ, List.getElem_toArray, List.getElem_cons_zero, List.getElem_cons_succ]
    refine E_take (i := 2) (oi := _) (v := ?_) rfl (by kernel_rfl) (fun _ _ _ h => h) ?_ (by assumption) ?_
    rotate_left 1
    · (refine Or.inl ⟨by rfl, ?_⟩; intro w hSw; (try dsimp only at hSw); (try simp only [List.getElem_toArray, List.getElem_cons_zero, List.getElem_cons_succ]); go_simp; (first | done | with_reducible rfl))
    try simp only [Act.put, List.setIfInBounds_toArray, List.set_cons_zero, List.set_cons_succ, List.getElem_toArray, List.getElem_cons_zero, List.getElem_cons_succ]
    refine E_take (i := 3) (oi := _) (v := ?_) rfl (by kernel_rfl) (fun _ _ _ h => h) ?_ (by assumption) ?_
    rotate_left 1
    · (refine Or.inl ⟨by rfl, ?_⟩; intro w hSw; (try dsimp only at hSw); (try simp only [List.getElem_toArray, List.getElem_cons_zero, List.getElem_cons_succ]); go_simp; (first | done | with_reducible rfl))
    try simp only [Act.put, List.setIfInBounds_toArray, List.set_cons_zero, List.set_cons_succ, List.getElem_toArray, List.getElem_cons_zero, List.getElem_cons_succ]
    refine E_take (i := 4) (oi := _) (v := ?_) rfl (by kernel_rfl) (fun _ _ _ h => h) ?_ (by assumption) ?_
    rotate_left 1
    · (refine Or.inl ⟨by rfl, ?_⟩; intro w hSw; (try dsimp only at hSw); (try simp only [List.getElem_toArray, List.getElem_cons_zero, List.getElem_cons_succ]); go_simp; (first | done | with_reducible rfl))
    try simp only [Act.put, List.setIfInBounds_toArray, List.set_cons_zero, List.set_cons_succ, List.getElem_toArray, List.getElem_cons_zero, List.getElem_cons_succ]
    refine E_take (i := 5) (oi := _) (v := ?_) rfl (by kernel_rfl) (fun _ _ _ h => h) ?_ (by assumption) ?_
    rotate_left 1
    · (refine Or.inl ⟨by rfl, ?_⟩; intro w hSw; (try dsimp only at hSw); (try simp only [List.getElem_toArray, List.getElem_cons_zero, List.getElem_cons_succ]); go_simp; (first | done | with_reducible rfl))
    try simp only [Act.put, List.setIfInBounds_toArray, List.set_cons_zero, List.set_cons_succ, List.getElem_toArray, List.getElem_cons_zero, List.getElem_cons_succ]
    refine E_take (i := 6) (oi := _) (v := ?_) rfl (by kernel_rfl) (fun _ _ _ h => h) ?_ (by assumption) ?_
    rotate_left 1
    · (refine Or.inl ⟨by rfl, ?_⟩; intro w hSw; (try dsimp only at hSw); (try simp only [List.getElem_toArray, List.getElem_cons_zero, List.getElem_cons_succ]); go_simp; (first | done | with_reducible rfl))
    try simp only [Act.put, List.setIfInBounds_toArray, List.set_cons_zero, List.set_cons_succ, List.getElem_toArray, List.getElem_cons_zero, List.getElem_cons_succ]
    refine E_take (i := 7) (oi := _) (v := ?_) rfl (by kernel_rfl) (fun _ _ _ h => h) ?_ (by assumption) ?_
    rotate_left 1
    · (refine Or.inl ⟨by rfl, ?_⟩; intro w hSw; (try dsimp only at hSw); (try simp only [List.getElem_toArray, List.getElem_cons_zero, List.getElem_cons_succ]); go_simp; (first | done | with_reducible rfl))
    try simp only [Act.put, List.setIfInBounds_toArray, List.set_cons_zero, List.set_cons_succ, List.getElem_toArray, List.getElem_cons_zero, List.getElem_cons_succ]
    refine E_take (i := 8) (oi := _) (v := ?_) rfl (by kernel_rfl) (fun _ _ _ h => h) ?_ (by assumption) ?_
    rotate_left 1
    · (refine Or.inl ⟨by rfl, ?_⟩; intro w hSw; (try dsimp only at hSw); (try simp only [List.getElem_toArray, List.getElem_cons_zero, List.getElem_cons_succ]); go_simp; (first | done | with_reducible rfl))
    try simp only [Act.put, List.setIfInBounds_toArray, List.set_cons_zero, List.set_cons_succ, List.getElem_toArray, List.getElem_cons_zero, List.getElem_cons_succ]
    refine E_ready (rs := [9]) (by kernel_rfl) (by decide) ?_
    refine AllE.cons (o := _) rfl (fun K hK => ?_) AllE.nil
    try simp only [List.getElem_toArray, List.getElem_cons_zero, List.getElem_cons_succ]
    go_simp
    refine (DQ.out _).mono ?_
    rintro e w5 ⟨rfl, b5⟩
    go_wp2_with fail
    refine hK.out _ _ (KP.out _ (undrew b5)) (fun hHeld => ?_)
    clear hK K
    try simp only [Act.put, List.setIfInBounds_toArray, List.set_cons_zero, List.set_cons_succ, List.getElem_toArray, List.getElem_cons_zero, List.getElem_cons_succ]
    refine E_take (i := 10) (oi := _) (v := ?_) rfl (by kernel_rfl) (fun _ _ _ h => h) ?_ (by assumption) ?_
    rotate_left 1
    · (refine Or.inl ⟨by rfl, ?_⟩; intro w hSw; (try dsimp only at hSw); (try simp only [List.getElem_toArray, List.getElem_cons_zero, List.getElem_cons_succ]); go_simp; (first | done | with_reducible rfl))
    try simp only [Act.put, List.setIfInBounds_toArray, List.set_cons_zero, List.set_cons_succ, List.getElem_toArray, List.getElem_cons_zero, List.getElem_cons_succ]
    refine E_take (i := 11) (oi := _) (v := ?_) rfl (by kernel_rfl) (fun _ _ _ h => h) ?_ (by assumption) ?_
    rotate_left 1
    · (refine Or.inl ⟨by rfl, ?_⟩; intro w hSw; (try dsimp only at hSw); (try simp only [List.getElem_toArray, List.getElem_cons_zero, List.getElem_cons_succ]); go_simp; (first | done | with_reducible rfl))
    try simp only [Act.put, List.setIfInBounds_toArray, List.set_cons_zero, List.set_cons_succ, List.getElem_toArray, List.getElem_cons_zero, List.getElem_cons_succ]
    refine E_take (i := 12) (oi := _) (v := ?_) rfl (by kernel_rfl) (fun _ _ _ h => h) ?_ (by assumption) ?_
    rotate_left 1
    · (refine Or.inl ⟨by rfl, ?_⟩; intro w hSw; (try dsimp only at hSw); (try simp only [List.getElem_toArray, List.getElem_cons_zero, List.getElem_cons_succ]); go_simp; (first | done | with_reducible rfl))
    try simp only [Act.put, List.setIfInBounds_toArray, List.set_cons_zero, List.set_cons_succ, List.getElem_toArray, List.getElem_cons_zero, List.getElem_cons_succ]
    obtain ⟨⟨y6, y7⟩, y8, y9⟩ := KR.out _ (undrew b5)
    have SST : Hid (∀ W : World, (∀ b, b ≠ w.heap.size + 1 → W.heap[b]? = w5.heap[b]?) → ((W.cell? ⟨w.heap.size, 0, none⟩ = some (.slice (some ⟨g, 0, none⟩) 2 c0) ∧ W.cell? ⟨w.heap.size, 1, none⟩ = some (.slice a1 2 c1) ∧ W.cell? ⟨w.heap.size, 2, none⟩ = some (.slice a2 n2 c2)) ∧ (W.cell? ⟨g, 2, none⟩ = some (.string x1s)) ∧ (W.cell? ⟨w1.heap.size, 0, none⟩ = some (.int .i64 1) ∧ W.cell? ⟨w1.heap.size, 1, none⟩ = some (.int .i64 po)))) := Lib.hid (fun W hb => by
      obtain ⟨⟨s1, s2, s3⟩, s4, s5, s6⟩ := KP.out _ (undrew b5)
      have e1 := hb w.heap.size (by omega)
      have e2 := hb g (by have := HGW.out; omega)
      have e3 := hb w1.heap.size (by have := HGW.out; omega)
      exact ⟨⟨(World.cell?_of_block (a := ⟨w.heap.size, 0, none⟩) e1).trans s1, (World.cell?_of_block (a := ⟨w.heap.size, 1, none⟩) e1).trans s2, (World.cell?_of_block (a := ⟨w.heap.size, 2, none⟩) e1).trans s3⟩, (World.cell?_of_block (a := ⟨g, 2, none⟩) e2).trans s4, (World.cell?_of_block (a := ⟨w1.heap.size, 0, none⟩) e3).trans s5, (World.cell?_of_block (a := ⟨w1.heap.size, 1, none⟩) e3).trans s6⟩)
    refine E_ready (rs := [13]) (by kernel_rfl) (by decide) ?_
    refine AllE.cons (o := _) rfl (fun K hK => ?_) AllE.nil
    try simp only [List.getElem_toArray, List.getElem_cons_zero, List.getElem_cons_succ]
    go_simp
    refine hK.out _ _ (SST.out _ (fun b hb => (set_other hb).trans (set_other hb))) (fun hHeld => ?_)
    clear hK K
    try simp only [Act.put, List.setIfInBounds_toArray, List.set_cons_zero, List.set_cons_succ, List.getElem_toArray, List.getElem_cons_zero, List.getElem_cons_succ]
    refine E_ready (rs := [14]) (by kernel_rfl) (by decide) ?_
    refine AllE.cons (o := _) rfl (fun K hK => ?_) AllE.nil
    try simp only [List.getElem_toArray, List.getElem_cons_zero, List.getElem_cons_succ]
    go_simp
    refine hK.out _ _ (SST.out _ (fun b hb => (set_other hb).trans (set_other hb))) (fun hHeld => ?_)
    clear hK K
    try simp only [Act.put, List.setIfInBounds_toArray, List.set_cons_zero, List.set_cons_succ, List.getElem_toArray, List.getElem_cons_zero, List.getElem_cons_succ]
    refine E_last (o := _) (by kernel_rfl) rfl (by kernel_rfl) (fun K hK => ?_)
    try simp only [List.getElem_toArray, List.getElem_cons_zero, List.getElem_cons_succ]
    go_simp
    refine hK.out _ _ ?_
    clear hK K
    have HB5 := Lib.hid (HBF.out _ (undrew b5))
    clear b5
    go_wp2
    refine bodyPost_ret (v := .tuple #[.agg #[.int .i64 rc, .int .i64 ra], .int .i64 rn, .bool rb]) (by simp [results, Tryz.results51, go_sem, y6, y7]) rfl ⟨rfl, (HB5.out.setCell (by simp; try omega) _).setCell (by simp; try omega) _⟩
  · have HR := Lib.hid (F2.out rfl)
    have LC2 : Hid (∀ W, Below w.heap.size w W → Calls Tryz.prog 49 #[.agg #[.slice (some ⟨g, 0, none⟩) 2 c0, .slice a1 2 c1, .slice a2 n2 c2], .int .i64 a] W fun e w' => e = .returned (.tuple #[.agg #[.int .i64 0, .int .i64 0], .bool false]) ∧ Below W.heap.size W w') := Lib.hid (fun W hb => by have h := LC.out W hb; rw [spotV_no (show (-1 : Int) < 0 by omega)] at h; exact h)
    clear F0 F1 F2 D0 D1 LC
    go_enter Tryz.func51, Tryz.ntmps51
    go_upto_region 1 with fail
    rw [HW0.out]
    go_wp2_with fail
    refine (LC2.out _ HB0.out).mono ?_
    rintro e w1 ⟨rfl, b1⟩
    have B1 : Hid (Below W0.heap.size W0 w1) := Lib.hid (b1.mono (Nat.le_refl _))
    clear b1 e0 e1 e2
    have hz1 := B1.out.size
    obtain ⟨W2, hW2⟩ : ∃ W, w1.alloc (.cells #[.int .i64 0, .int .i64 0] 84) = W := ⟨_, rfl⟩
    have B2 : Hid (Below W0.heap.size W0 W2) := Lib.hid (hW2 ▸ B1.out.alloc hz1 _)
    have HW2 := Lib.hid hW2
    clear hW2
    go_upto_region 2 with fail
    rw [HW2.out]
    obtain ⟨_, _, hr, HBW⟩ := HX.out W2 B2.out
    have HBW := Lib.hid HBW
    have r0 := (blk hr).1 0 _ rfl
    have r1 := (blk hr).1 1 _ rfl
    have f0 := (blk hr).2.1 0
    have f1 := (blk hr).2.1 1
    clear hr
    go_wp2
    refine bodyPost_ret (v := .tuple #[.agg #[.int .i64 0, .int .i64 0], .int .i64 0, .bool false]) (by simp [results, Tryz.results51, go_sem, r0, r1]) rfl ⟨by rw [HR.out]; rfl, (HBW.out.setCell (by simp) _).setCell (by simp) _⟩

end Go.Proofs.YtakgjlpgcepnkaaGreat
