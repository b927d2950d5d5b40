/- Address spaces, the program's: where a byte is, where its symbol begins; The program's isCode, shapeOf and OpSize; The program's sizeAt: how many bytes the instruction at an index has; The program's canDisassemble: whether bytes consist of instructions. -/
import Derived.Test.YtakgjlpgcepnkaaGreatI10
import Derived.Test.YtakgjlpgcepnkaaGreatI02
import Derived.Test.YtakgjlpgcepnkaaGreatI07
import Derived.Test.YtakgjlpgcepnkaaGreatI08
import Derived.Deep.WholeRow
import Derived.Deep.Cut
import Derived.ChangeKeysEq
/-! Address spaces, the program's: where a byte is, where its symbol begins -/
namespace Go.Proofs.YtakgjlpgcepnkaaGreat
open Go.RowKit Go.Lib

theorem spotV_yes {p : Int × Int} (h : ¬ p.1 < 0) : spotV p = .tuple #[.agg #[.int .i64 p.1, .int .i64 p.2], .bool true] := by unfold spotV; rw [if_neg h]
theorem spotV_no {p : Int × Int} (h : p.1 < 0) : spotV p = .tuple #[.agg #[.int .i64 0, .int .i64 0], .bool false] := by unfold spotV; rw [if_pos h]
set_option maxRecDepth 100000 in
set_option maxHeartbeats 4000000 in
theorem i_spot (x0 x1 : ImA) (b0 b1 a : Int) (a0 a1 a2 : Option Addr) (c0 c1 c2 n2 : Nat) (w : World) (hI : ReadIms w a0 [x0, x1]) (hB : ReadI w a1 [b0, b1]) (l0 : 1 ≤ b0) (u0 : b0 ≤ 1000000) (l1 : 1 ≤ b1) (u1 : b1 ≤ 1000000) (z0 : x0.s.size ≤ 1048576) (z1 : x1.s.size ≤ 1048576) :
    Calls Tryz.prog 49 #[.agg #[.slice a0 2 c0, .slice a1 2 c1, .slice a2 n2 c2], .int .i64 a] w fun e w' => e = .returned (spotV (spA x0 x1 b0 b1 a)) ∧ Below w.heap.size w w' := by
  have E0 := Lib.hid (fun W (hb : Below w.heap.size w W) => i_end0 x0 x1 b0 b1 a0 a1 a2 c0 c1 c2 n2 W (hI.below hb) (hB.below hb) l0 u0 z0)
  have E1 := Lib.hid (fun W (hb : Below w.heap.size w W) => i_end1 x0 x1 b0 b1 a0 a1 a2 c0 c1 c2 n2 W (hI.below hb) (hB.below hb) l1 u1 z1)
  have HS : Hid (spA x0 x1 b0 b1 a = spotZ b0 x0.s.size b1 x1.s.size a) := Lib.hid rfl
  obtain ⟨g, rfl, hg, HI, _⟩ := readIms2 hI
  obtain ⟨k, rfl, hk, HB1, HB2⟩ := readI2 hB
  have T2 := Lib.hid (two_new w (.cells #[.slice (some ⟨g, 0, none⟩) 2 c0, .slice (some ⟨k, 0, none⟩) 2 c1, .slice a2 n2 c2] 34) (.cells #[.int .i64 0, .int .i64 0] 84))
  have HX : Hid (∀ W, Below (w.heap.size + 2) ((w.alloc (.cells #[.slice (some ⟨g, 0, none⟩) 2 c0, .slice (some ⟨k, 0, none⟩) 2 c1, .slice a2 n2 c2] 34)).alloc (.cells #[.int .i64 0, .int .i64 0] 84)) W → (W.cell? ⟨w.heap.size, 0, none⟩ = some (.slice (some ⟨g, 0, none⟩) 2 c0) ∧ W.cell? ⟨w.heap.size, 1, none⟩ = some (.slice (some ⟨k, 0, none⟩) 2 c1) ∧ W.cell? ⟨w.heap.size, 2, none⟩ = some (.slice a2 n2 c2)) ∧ (W.cell? ⟨k, 0, none⟩ = some (.int .i64 b0) ∧ W.cell? ⟨k, 1, none⟩ = some (.int .i64 b1)) ∧ W.heap[w.heap.size + 1]? = some (.cells #[.int .i64 0, .int .i64 0] 84 (0, 0)) ∧ Below w.heap.size w W) := Lib.hid (fun W hb => by
    have b' : Below w.heap.size w W := T2.out.2.2.2.trans (hb.mono (by omega))
    have hn := (hb.block w.heap.size (by omega)).trans T2.out.1
    have hn1 := (hb.block (w.heap.size + 1) (by omega)).trans T2.out.2.1
    exact ⟨⟨(blk hn).1 0 _ rfl, (blk hn).1 1 _ rfl, (blk hn).1 2 _ rfl⟩, ⟨(b'.cell (p := ⟨k, 0, none⟩) hk).trans HB1, (b'.cell (p := ⟨k, 1, none⟩) hk).trans HB2⟩, hn1, b'⟩)
  have TZ : Hid (((w.alloc (.cells #[.slice (some ⟨g, 0, none⟩) 2 c0, .slice (some ⟨k, 0, none⟩) 2 c1, .slice a2 n2 c2] 34)).alloc (.cells #[.int .i64 0, .int .i64 0] 84)).heap.size = w.heap.size + 2) := Lib.hid T2.out.2.2.1
  generalize x0.s = s0 at *
  generalize x1.s = s1 at *
  obtain ⟨W0, hW0⟩ : ∃ W, (w.alloc (.cells #[.slice (some ⟨g, 0, none⟩) 2 c0, .slice (some ⟨k, 0, none⟩) 2 c1, .slice a2 n2 c2] 34)).alloc (.cells #[.int .i64 0, .int .i64 0] 84) = W := ⟨_, rfl⟩
  rw [hW0] at HX TZ
  have HW0 := Lib.hid hW0
  obtain ⟨pp, hpp⟩ : ∃ f, spA x0 x1 b0 b1 a = f := ⟨_, rfl⟩
  rw [hpp] at HS ⊢
  clear hI hB HI HB1 HB2 hg hk T2 hW0 hpp
  obtain ⟨⟨e0, e1, e2⟩, ⟨p0, p1⟩, hr, _⟩ := HX.out W0 (Below.refl _ _)
  clear hr
  go_enter Tryz.func49, Tryz.ntmps49
  go_upto_region 1 with fail
  rw [HW0.out]
  go_wp2_with fail
  clear e0 e1 e2 p0 p1
  go_loopw [5, 6, 7, 11] (fun _ _ _ i wr => ∃ q : Nat, q ≤ 2 ∧ i = .int .i64 (q : Int) ∧ Hid (1 ≤ q → ¬(b0 ≤ a ∧ a < b0 + (s0.size : Int))) ∧ Hid (2 ≤ q → ¬(b1 ≤ a ∧ a < b1 + (s1.size : Int))) ∧ Hid (Below (w.heap.size + 2) W0 wr)) (fun _ _ _ i _ => 2 - (RowKit.intOf i).toNat)
  case atStart => exact ⟨0, by omega, rfl, Lib.hid (fun h => by omega), Lib.hid (fun h => by omega), Lib.hid (Below.refl _ _)⟩
  case round =>
    obtain ⟨q, hq, rfl, N0, N1, HB⟩ := hrel
    obtain ⟨⟨e0, e1, e2⟩, ⟨p0, p1⟩, hr, HBW⟩ := HX.out _ HB.out
    have HBW := Lib.hid HBW
    have HR := Lib.hid hr
    have hz : w.heap.size + 2 ≤ wr.heap.size := by have h := HB.out.size; have := TZ.out; omega
    clear hr
    match q, hq with
    | 0, _ =>
      by_cases h1 : b0 ≤ a
      · by_cases h2 : a < b0 + (s0.size : Int)
        · have v : IntKind.i64.wrap (a - b0) = a - b0 := IntWalk.i64_in _ (by omega)
          have HV : Hid (pp = (0, a - b0)) := Lib.hid (by rw [HS.out]; exact spot_0 h1 h2)
          clear N0 N1
          go_wp2_with fail
          refine (E0.out _ HBW.out).mono ?_
          rintro e w2 ⟨rfl, b2⟩
          have HB2 : Hid (Below (w.heap.size + 2) W0 w2) := Lib.hid (HB.out.trans (b2.mono hz))
          clear b2 e0 e1 e2 p0 p1
          obtain ⟨⟨e0, e1, e2⟩, ⟨p0, p1⟩, hr, HBY⟩ := HX.out _ HB2.out
          have HBY := Lib.hid HBY
          have r0 := (blk hr).1 0 _ rfl
          have r1 := (blk hr).1 1 _ rfl
          have f0 := (blk hr).2.1 0
          have f1 := (blk hr).2.1 1
          clear hr
          go_wp2
          refine bodyPost_ret (v := .tuple #[.agg #[.int .i64 0, .int .i64 (a - b0)], .bool true]) (by simp [results, Tryz.results49, go_sem, r0, r1]) rfl ⟨by rw [HV.out]; rfl, (HBY.out.setCell (by simp) _).setCell (by simp) _⟩
        · have M : Hid (¬(b0 ≤ a ∧ a < b0 + (s0.size : Int))) := Lib.hid (fun hh => h2 hh.2)
          go_wp2_with fail
          refine (E0.out _ HBW.out).mono ?_
          rintro e w2 ⟨rfl, b2⟩
          have HB2 : Hid (Below (w.heap.size + 2) W0 w2) := Lib.hid (HB.out.trans (b2.mono hz))
          clear b2 e0 e1 e2 p0 p1
          go_wp2
          go_roundw
          case rel => exact ⟨1, by omega, by go_num, Lib.hid (fun _ => M.out), Lib.hid (fun h => by omega), HB2⟩
          case measure => simp [RowKit.intOf]
      · have M : Hid (¬(b0 ≤ a ∧ a < b0 + (s0.size : Int))) := Lib.hid (fun hh => h1 hh.1)
        have hd : decide (b0 ≤ a) = false := decide_eq_false h1
        go_wp2
        go_roundw
        case rel => exact ⟨1, by omega, by go_num, Lib.hid (fun _ => M.out), Lib.hid (fun h => by omega), HB⟩
        case measure => simp [RowKit.intOf]
    | 1, _ =>
      by_cases h1 : b1 ≤ a
      · by_cases h2 : a < b1 + (s1.size : Int)
        · have v : IntKind.i64.wrap (a - b1) = a - b1 := IntWalk.i64_in _ (by omega)
          have HV : Hid (pp = (1, a - b1)) := Lib.hid (by rw [HS.out]; exact spot_1 (N0.out (by omega)) h1 h2)
          clear N0 N1
          go_wp2_with fail
          refine (E1.out _ HBW.out).mono ?_
          rintro e w2 ⟨rfl, b2⟩
          have HB2 : Hid (Below (w.heap.size + 2) W0 w2) := Lib.hid (HB.out.trans (b2.mono hz))
          clear b2 e0 e1 e2 p0 p1
          obtain ⟨⟨e0, e1, e2⟩, ⟨p0, p1⟩, hr, HBY⟩ := HX.out _ HB2.out
          have HBY := Lib.hid HBY
          have r0 := (blk hr).1 0 _ rfl
          have r1 := (blk hr).1 1 _ rfl
          have f0 := (blk hr).2.1 0
          have f1 := (blk hr).2.1 1
          clear hr
          go_wp2
          refine bodyPost_ret (v := .tuple #[.agg #[.int .i64 1, .int .i64 (a - b1)], .bool true]) (by simp [results, Tryz.results49, go_sem, r0, r1]) rfl ⟨by rw [HV.out]; rfl, (HBY.out.setCell (by simp) _).setCell (by simp) _⟩
        · have M : Hid (¬(b1 ≤ a ∧ a < b1 + (s1.size : Int))) := Lib.hid (fun hh => h2 hh.2)
          go_wp2_with fail
          refine (E1.out _ HBW.out).mono ?_
          rintro e w2 ⟨rfl, b2⟩
          have HB2 : Hid (Below (w.heap.size + 2) W0 w2) := Lib.hid (HB.out.trans (b2.mono hz))
          clear b2 e0 e1 e2 p0 p1
          go_wp2
          go_roundw
          case rel => exact ⟨2, by omega, by go_num, Lib.hid (fun _ => N0.out (by omega)), Lib.hid (fun _ => M.out), HB2⟩
          case measure => simp [RowKit.intOf]
      · have M : Hid (¬(b1 ≤ a ∧ a < b1 + (s1.size : Int))) := Lib.hid (fun hh => h1 hh.1)
        have hd : decide (b1 ≤ a) = false := decide_eq_false h1
        go_wp2
        go_roundw
        case rel => exact ⟨2, by omega, by go_num, Lib.hid (fun _ => N0.out (by omega)), Lib.hid (fun _ => M.out), HB⟩
        case measure => simp [RowKit.intOf]
    | 2, _ =>
      have HV : Hid (pp = (-1, -1)) := Lib.hid (by rw [HS.out]; exact spot_no (N0.out (by omega)) (N1.out (by omega)))
      have r0 := (blk HR.out).1 0 _ rfl
      have r1 := (blk HR.out).1 1 _ rfl
      have f0 := (blk HR.out).2.1 0
      have f1 := (blk HR.out).2.1 1
      clear N0 N1
      go_wp2
      refine bodyPost_ret (v := .tuple #[.agg #[.int .i64 0, .int .i64 0], .bool false]) (by simp [results, Tryz.results49, go_sem, r0, r1]) rfl ⟨by rw [HV.out]; rfl, (HBW.out.setCell (by simp) _).setCell (by simp) _⟩

set_option maxRecDepth 100000 in
set_option maxHeartbeats 4000000 in
theorem i_start0 (x0 x1 : ImA) (po : Int) (a0 a1 a2 : Option Addr) (c0 c1 c2 n1 n2 : Nat) (w : World) (hI : ReadIms w a0 [x0, x1]) (hl : x0.l.length ≤ 1048576) (ky : Nat) (hky : ky < x0.l.length) (hy : symZ x0.l po = (ky : Int)) :
    Calls Tryz.prog 50 #[.agg #[.slice a0 2 c0, .slice a1 n1 c1, .slice a2 n2 c2], .agg #[.int .i64 0, .int .i64 po]] w fun e w' => e = .returned (.agg #[.int .i64 0, .int .i64 (x0.l[ky]).start]) ∧ Below w.heap.size w w' := by
  obtain ⟨g, rfl, hg, HI, HR0, HR1⟩ := readIms2 hI
  have SY := Lib.hid (fun W h => i_symbolAt x0.s x0.a x0.c x0.l po W (by omega) h)
  rw [hy] at SY
  obtain ⟨gs, hgs0, hgs, _, cst, _⟩ := HR0 ky hky
  have HR := Lib.hid HR0
  have ky0 : (0 : Int) ≤ (ky : Int) := by omega
  have ky1 : (ky : Int) < (x0.l.length : Int) := by omega
  have I0 := HI.1
  have I1 := HI.2.1
  generalize (x0.l[ky]).start = st at *
  have T3 := Lib.hid (three_new w (.cells #[.slice (some ⟨g, 0, none⟩) 2 c0, .slice a1 n1 c1, .slice a2 n2 c2] 34) (.cells #[.int .i64 0, .int .i64 po] 84) (.cells #[.int .i64 0, .int .i64 0] 84))
  obtain ⟨W0, hW0⟩ : ∃ W, ((w.alloc (.cells #[.slice (some ⟨g, 0, none⟩) 2 c0, .slice a1 n1 c1, .slice a2 n2 c2] 34)).alloc (.cells #[.int .i64 0, .int .i64 po] 84)).alloc (.cells #[.int .i64 0, .int .i64 0] 84) = W := ⟨_, rfl⟩
  rw [hW0] at T3
  have HW0 := Lib.hid hW0
  obtain ⟨xs, xl, xa, xc⟩ := x0
  dsimp only at *
  subst hgs0
  obtain ⟨t0, t1, t2, tz, tb⟩ := T3.out
  have HB0 := Lib.hid tb
  have HX : Hid (∀ W, Below W0.heap.size W0 W → (W.cell? ⟨w.heap.size, 0, none⟩ = some (.slice (some ⟨g, 0, none⟩) 2 c0) ∧ W.cell? ⟨w.heap.size, 1, none⟩ = some (.slice a1 n1 c1) ∧ W.cell? ⟨w.heap.size, 2, none⟩ = some (.slice a2 n2 c2)) ∧ (W.cell? ⟨w.heap.size + 1, 0, none⟩ = some (.int .i64 0) ∧ W.cell? ⟨w.heap.size + 1, 1, none⟩ = some (.int .i64 po)) ∧ W.heap[w.heap.size + 1 + 1]? = some (.cells #[.int .i64 0, .int .i64 0] 84 (0, 0)) ∧ (W.cell? ⟨g, 0, none⟩ = some (.string xs) ∧ W.cell? ⟨g, 1, none⟩ = some (.slice (some ⟨gs, 0, none⟩) xl.length xc)) ∧ W.cell? ⟨gs, ky * 3 + 1, none⟩ = some (.int .i64 st)) := Lib.hid (fun W hb => by
    have b' : Below w.heap.size w W := tb.trans (hb.mono (by omega))
    have h0 := (hb.block w.heap.size (by omega)).trans t0
    have h1 := (hb.block (w.heap.size + 1) (by omega)).trans t1
    have h2 := (hb.block (w.heap.size + 1 + 1) (by omega)).trans t2
    exact ⟨⟨(blk h0).1 0 _ rfl, (blk h0).1 1 _ rfl, (blk h0).1 2 _ rfl⟩, ⟨(blk h1).1 0 _ rfl, (blk h1).1 1 _ rfl⟩, h2, ⟨(b'.cell (p := ⟨g, 0, none⟩) hg).trans I0, (b'.cell (p := ⟨g, 1, none⟩) hg).trans I1⟩, (b'.cell (p := ⟨gs, ky * 3 + 1, none⟩) hgs).trans cst⟩)
  have hzz : W0.heap.size = w.heap.size + 3 := tz
  obtain ⟨⟨e0, e1, e2⟩, ⟨p0, p1⟩, hr, ⟨i0, i1⟩, s0⟩ := HX.out W0 (Below.refl _ _)
  clear hI HI HR0 HR1 hy cst I0 I1 T3 hW0 t0 t1 t2 tz tb hr
  go_enter Tryz.func50, Tryz.ntmps50
  go_upto_region 1 with fail
  rw [HW0.out]
  go_upto_region 2 with fail
  obtain ⟨W1, hW1⟩ : ∃ W, W0.alloc (.cells #[.string xs, .slice (some ⟨gs, 0, none⟩) xl.length xc] 65) = W := ⟨_, rfl⟩
  have B1 : Hid (Below W0.heap.size W0 W1) := Lib.hid (hW1 ▸ (Below.refl _ _).alloc (Nat.le_refl _) _)
  have P1 : Hid (W1.heap[w.heap.size + 3]? = some (.cells #[.string xs, .slice (some ⟨gs, 0, none⟩) xl.length xc] 65 (0, 0))) := Lib.hid (by rw [← hW1, ← hzz]; exact heap_alloc_new W0 _)
  have Z1 : Hid (W1.heap.size = W0.heap.size + 1) := Lib.hid (by rw [← hW1]; simp)
  rw [hW1]
  have KP : Hid (∀ W, Below W1.heap.size W1 W → ((W.cell? ⟨w.heap.size + 1, 0, none⟩ = some (.int .i64 0) ∧ W.cell? ⟨w.heap.size + 1, 1, none⟩ = some (.int .i64 po)) ∧ (W.cell? ⟨w.heap.size + 3, 0, none⟩ = some (.string xs) ∧ W.cell? ⟨w.heap.size + 3, 1, none⟩ = some (.slice (some ⟨gs, 0, none⟩) xl.length xc)) ∧ W.cell? ⟨gs, ky * 3 + 1, none⟩ = some (.int .i64 st) ∧ (W.cell? ⟨w.heap.size + 1 + 1, 0, none⟩ = some (.int .i64 0) ∧ W.cell? ⟨w.heap.size + 1 + 1, 1, none⟩ = some (.int .i64 0)) ∧ (W.frozen? ⟨w.heap.size + 1 + 1, 0, none⟩ = false ∧ W.frozen? ⟨w.heap.size + 1 + 1, 1, none⟩ = false))) := Lib.hid (fun W hb => by
    have hz1 := Z1.out
    have hb0 : Below W0.heap.size W0 W := B1.out.trans (hb.mono (by omega))
    obtain ⟨_, q1, q2, _, q3⟩ := HX.out W hb0
    have h3 := (hb.block (w.heap.size + 3) (by omega)).trans P1.out
    exact ⟨q1, ⟨(blk h3).1 0 _ rfl, (blk h3).1 1 _ rfl⟩, q3, ⟨(blk q2).1 0 _ rfl, (blk q2).1 1 _ rfl⟩, (blk q2).2.1 0, (blk q2).2.1 1⟩)
  have HRW := Lib.hid (fun W (hb : Below W1.heap.size W1 W) => HR.out.below (HB0.out.trans ((B1.out.trans (hb.mono (by have := Z1.out; omega))).mono (show w.heap.size ≤ W0.heap.size by omega))))
  have HBF : Hid (∀ W, Below W1.heap.size W1 W → Below w.heap.size w W) := Lib.hid (fun W hb => HB0.out.trans ((B1.out.trans (hb.mono (by have := Z1.out; omega))).mono (show w.heap.size ≤ W0.heap.size by omega)))
  clear hW1 e0 e1 e2 p0 p1 i0 i1 s0 HW0 HR
  refine E_start (S := (fun W => ((W.cell? ⟨w.heap.size + 1, 0, none⟩ = some (.int .i64 0) ∧ W.cell? ⟨w.heap.size + 1, 1, none⟩ = some (.int .i64 po)) ∧ (W.cell? ⟨w.heap.size + 3, 0, none⟩ = some (.string xs) ∧ W.cell? ⟨w.heap.size + 3, 1, none⟩ = some (.slice (some ⟨gs, 0, none⟩) xl.length xc)) ∧ W.cell? ⟨gs, ky * 3 + 1, none⟩ = some (.int .i64 st) ∧ (W.cell? ⟨w.heap.size + 1 + 1, 0, none⟩ = some (.int .i64 0) ∧ W.cell? ⟨w.heap.size + 1 + 1, 1, none⟩ = some (.int .i64 0)) ∧ (W.frozen? ⟨w.heap.size + 1 + 1, 0, none⟩ = false ∧ W.frozen? ⟨w.heap.size + 1 + 1, 1, none⟩ = false)))) 12 (by kernel_rfl) (KP.out _ (Below.refl W1.heap.size W1).drew) (fun hHeld => ?_)
  refine E_take (i := 0) (oi := _) (v := ?_) rfl (by kernel_rfl) (fun _ _ _ h => h) ?_ (by assumption) ?_
  rotate_left 1
  · (refine Or.inl ⟨by rfl, ?_⟩; intro w hSw; (try dsimp only at hSw); (try simp only [List.getElem_toArray, List.getElem_cons_zero, List.getElem_cons_succ]); go_simp; (first | done | with_reducible rfl))
  try simp only [Act.put, List.setIfInBounds_toArray, List.set_cons_zero, List.set_cons_succ, List.getElem_toArray, List.getElem_cons_zero, List.getElem_cons_succ]
  refine E_take (i := 1) (oi := _) (v := ?_) rfl (by kernel_rfl) (fun _ _ _ h => h) ?_ (by assumption) ?_
  rotate_left 1
  · (refine Or.inl ⟨by rfl, ?_⟩; intro w hSw; (try dsimp only at hSw); (try simp only [List.getElem_toArray, List.getElem_cons_zero, List.getElem_cons_succ]); go_simp; (first | done | with_reducible rfl))
  try simp only [Act.put, List.setIfInBounds_toArray, List.set_cons_zero, List.set_cons_succ, List.getElem_toArray, List.getElem_cons_zero, List.getElem_cons_succ]
  refine E_take (i := 2) (oi := _) (v := ?_) rfl (by kernel_rfl) (fun _ _ _ h => h) ?_ (by assumption) ?_
  rotate_left 1
  · (refine Or.inl ⟨by rfl, ?_⟩; intro w hSw; (try dsimp only at hSw); (try simp only [List.getElem_toArray, List.getElem_cons_zero, List.getElem_cons_succ]); go_simp; (first | done | with_reducible rfl))
  try simp only [Act.put, List.setIfInBounds_toArray, List.set_cons_zero, List.set_cons_succ, List.getElem_toArray, List.getElem_cons_zero, List.getElem_cons_succ]
  refine E_take (i := 3) (oi := _) (v := ?_) rfl (by kernel_rfl) (fun _ _ _ h => h) ?_ (by assumption) ?_
  rotate_left 1
  · (refine Or.inl ⟨by rfl, ?_⟩; intro w hSw; (try dsimp only at hSw); (try simp only [List.getElem_toArray, List.getElem_cons_zero, List.getElem_cons_succ]); go_simp; (first | done | with_reducible rfl))
  try simp only [Act.put, List.setIfInBounds_toArray, List.set_cons_zero, List.set_cons_succ, List.getElem_toArray, List.getElem_cons_zero, List.getElem_cons_succ]
  refine E_take (i := 4) (oi := _) (v := ?_) rfl (by kernel_rfl) (fun _ _ _ h => h) ?_ (by assumption) ?_
  rotate_left 1
  · (refine Or.inl ⟨by rfl, ?_⟩; intro w hSw; (try dsimp only at hSw); (try simp only [List.getElem_toArray, List.getElem_cons_zero, List.getElem_cons_succ]); go_simp; (first | done | with_reducible rfl))
  try simp only [Act.put, List.setIfInBounds_toArray, List.set_cons_zero, List.set_cons_succ, List.getElem_toArray, List.getElem_cons_zero, List.getElem_cons_succ]
  refine E_take (i := 5) (oi := _) (v := ?_) rfl (by kernel_rfl) (fun _ _ _ h => h) ?_ (by assumption) ?_
  rotate_left 1
  · (refine Or.inl ⟨by rfl, ?_⟩; intro w hSw; (try dsimp only at hSw); (try simp only [List.getElem_toArray, List.getElem_cons_zero, List.getElem_cons_succ]); go_simp; (first | done | with_reducible rfl))
  try simp only [Act.put, List.setIfInBounds_toArray, List.set_cons_zero, List.set_cons_succ, List.getElem_toArray, List.getElem_cons_zero, List.getElem_cons_succ]
  refine E_take (i := 6) (oi := _) (v := ?_) rfl (by kernel_rfl) (fun _ _ _ h => h) ?_ (by assumption) ?_
  rotate_left 1
  · (refine Or.inl ⟨by rfl, ?_⟩; intro w hSw; (try dsimp only at hSw); (try simp only [List.getElem_toArray, List.getElem_cons_zero, List.getElem_cons_succ]); go_simp; (first | done | with_reducible rfl))
  try simp only [Act.put, List.setIfInBounds_toArray, List.set_cons_zero, List.set_cons_succ, List.getElem_toArray, List.getElem_cons_zero, List.getElem_cons_succ]
  refine E_ready (rs := [7]) (by kernel_rfl) (by decide) ?_
  refine AllE.cons (o := _) rfl (fun K hK => ?_) AllE.nil
  try simp only [List.getElem_toArray, List.getElem_cons_zero, List.getElem_cons_succ]
  go_simp
  refine (SY.out _ (HRW.out _ (Below.refl W1.heap.size W1).drew)).mono ?_
  rintro e w5 ⟨rfl, b5⟩
  go_wp2_with fail
  refine hK.out _ _ (KP.out _ (undrew b5)) (fun hHeld => ?_)
  clear hK K
  try simp only [Act.put, List.setIfInBounds_toArray, List.set_cons_zero, List.set_cons_succ, List.getElem_toArray, List.getElem_cons_zero, List.getElem_cons_succ]
  refine E_take (i := 8) (oi := _) (v := ?_) rfl (by kernel_rfl) (fun _ _ _ h => h) ?_ (by assumption) ?_
  rotate_left 1
  · (refine Or.inl ⟨by rfl, ?_⟩; intro w hSw; (try dsimp only at hSw); (try simp only [List.getElem_toArray, List.getElem_cons_zero, List.getElem_cons_succ]); go_simp; (first | done | with_reducible rfl))
  try simp only [Act.put, List.setIfInBounds_toArray, List.set_cons_zero, List.set_cons_succ, List.getElem_toArray, List.getElem_cons_zero, List.getElem_cons_succ]
  refine E_take (i := 9) (oi := _) (v := ?_) rfl (by kernel_rfl) (fun _ _ _ h => h) ?_ (by assumption) ?_
  rotate_left 1
  · (refine Or.inl ⟨by rfl, ?_⟩; intro w hSw; (try dsimp only at hSw); (try simp only [List.getElem_toArray, List.getElem_cons_zero, List.getElem_cons_succ]); go_simp; (first | done | with_reducible rfl))
  try simp only [Act.put, List.setIfInBounds_toArray, List.set_cons_zero, List.set_cons_succ, List.getElem_toArray, List.getElem_cons_zero, List.getElem_cons_succ]
  refine E_take (i := 10) (oi := _) (v := ?_) rfl (by kernel_rfl) (fun _ _ _ h => h) ?_ (by assumption) ?_
  rotate_left 1
  · (refine Or.inl ⟨by rfl, ?_⟩; intro w hSw; (try dsimp only at hSw); (try simp only [List.getElem_toArray, List.getElem_cons_zero, List.getElem_cons_succ]); go_simp; (first | done | with_reducible rfl))
  try simp only [Act.put, List.setIfInBounds_toArray, List.set_cons_zero, List.set_cons_succ, List.getElem_toArray, List.getElem_cons_zero, List.getElem_cons_succ]
  refine E_take (i := 11) (oi := _) (v := ?_) rfl (by kernel_rfl) (fun _ _ _ h => h) ?_ (by assumption) ?_
  rotate_left 1
  · (refine Or.inl ⟨by rfl, ?_⟩; intro w hSw; (try dsimp only at hSw); (try simp only [List.getElem_toArray, List.getElem_cons_zero, List.getElem_cons_succ]); go_simp; (first | done | with_reducible rfl))
  try simp only [Act.put, List.setIfInBounds_toArray, List.set_cons_zero, List.set_cons_succ, List.getElem_toArray, List.getElem_cons_zero, List.getElem_cons_succ]
  obtain ⟨⟨p6, p7⟩, ⟨i6, i7⟩, s5, ⟨y6, y7⟩, y8, y9⟩ := KP.out _ (undrew b5)
  refine E_last (o := _) (by kernel_rfl) rfl (by kernel_rfl) (fun K hK => ?_)
  try simp only [List.getElem_toArray, List.getElem_cons_zero, List.getElem_cons_succ]
  go_simp
  refine hK.out _ _ ?_
  clear hK K
  have HB5 := Lib.hid (HBF.out _ (undrew b5))
  clear b5
  go_wp2
  refine bodyPost_ret (v := .agg #[.int .i64 0, .int .i64 st]) (by simp [results, Tryz.results50, go_sem, y6, y7]) rfl ⟨rfl, (HB5.out.setCell (by simp; try omega) _).setCell (by simp; try omega) _⟩

set_option maxRecDepth 100000 in
set_option maxHeartbeats 4000000 in
theorem i_start1 (x0 x1 : ImA) (po : Int) (a0 a1 a2 : Option Addr) (c0 c1 c2 n1 n2 : Nat) (w : World) (hI : ReadIms w a0 [x0, x1]) (hl : x1.l.length ≤ 1048576) (ky : Nat) (hky : ky < x1.l.length) (hy : symZ x1.l po = (ky : Int)) :
    Calls Tryz.prog 50 #[.agg #[.slice a0 2 c0, .slice a1 n1 c1, .slice a2 n2 c2], .agg #[.int .i64 1, .int .i64 po]] w fun e w' => e = .returned (.agg #[.int .i64 1, .int .i64 (x1.l[ky]).start]) ∧ Below w.heap.size w w' := by
  obtain ⟨g, rfl, hg, HI, HR0, HR1⟩ := readIms2 hI
  have SY := Lib.hid (fun W h => i_symbolAt x1.s x1.a x1.c x1.l po W (by omega) h)
  rw [hy] at SY
  obtain ⟨gs, hgs0, hgs, _, cst, _⟩ := HR1 ky hky
  have HR := Lib.hid HR1
  have ky0 : (0 : Int) ≤ (ky : Int) := by omega
  have ky1 : (ky : Int) < (x1.l.length : Int) := by omega
  have I0 := HI.2.2.1
  have I1 := HI.2.2.2
  generalize (x1.l[ky]).start = st at *
  have T3 := Lib.hid (three_new w (.cells #[.slice (some ⟨g, 0, none⟩) 2 c0, .slice a1 n1 c1, .slice a2 n2 c2] 34) (.cells #[.int .i64 1, .int .i64 po] 84) (.cells #[.int .i64 0, .int .i64 0] 84))
  obtain ⟨W0, hW0⟩ : ∃ W, ((w.alloc (.cells #[.slice (some ⟨g, 0, none⟩) 2 c0, .slice a1 n1 c1, .slice a2 n2 c2] 34)).alloc (.cells #[.int .i64 1, .int .i64 po] 84)).alloc (.cells #[.int .i64 0, .int .i64 0] 84) = W := ⟨_, rfl⟩
  rw [hW0] at T3
  have HW0 := Lib.hid hW0
  obtain ⟨xs, xl, xa, xc⟩ := x1
  dsimp only at *
  subst hgs0
  obtain ⟨t0, t1, t2, tz, tb⟩ := T3.out
  have HB0 := Lib.hid tb
  have HX : Hid (∀ W, Below W0.heap.size W0 W → (W.cell? ⟨w.heap.size, 0, none⟩ = some (.slice (some ⟨g, 0, none⟩) 2 c0) ∧ W.cell? ⟨w.heap.size, 1, none⟩ = some (.slice a1 n1 c1) ∧ W.cell? ⟨w.heap.size, 2, none⟩ = some (.slice a2 n2 c2)) ∧ (W.cell? ⟨w.heap.size + 1, 0, none⟩ = some (.int .i64 1) ∧ W.cell? ⟨w.heap.size + 1, 1, none⟩ = some (.int .i64 po)) ∧ W.heap[w.heap.size + 1 + 1]? = some (.cells #[.int .i64 0, .int .i64 0] 84 (0, 0)) ∧ (W.cell? ⟨g, 2, none⟩ = some (.string xs) ∧ W.cell? ⟨g, 3, none⟩ = some (.slice (some ⟨gs, 0, none⟩) xl.length xc)) ∧ W.cell? ⟨gs, ky * 3 + 1, none⟩ = some (.int .i64 st)) := Lib.hid (fun W hb => by
    have b' : Below w.heap.size w W := tb.trans (hb.mono (by omega))
    have h0 := (hb.block w.heap.size (by omega)).trans t0
    have h1 := (hb.block (w.heap.size + 1) (by omega)).trans t1
    have h2 := (hb.block (w.heap.size + 1 + 1) (by omega)).trans t2
    exact ⟨⟨(blk h0).1 0 _ rfl, (blk h0).1 1 _ rfl, (blk h0).1 2 _ rfl⟩, ⟨(blk h1).1 0 _ rfl, (blk h1).1 1 _ rfl⟩, h2, ⟨(b'.cell (p := ⟨g, 2, none⟩) hg).trans I0, (b'.cell (p := ⟨g, 3, none⟩) hg).trans I1⟩, (b'.cell (p := ⟨gs, ky * 3 + 1, none⟩) hgs).trans cst⟩)
  have hzz : W0.heap.size = w.heap.size + 3 := tz
  obtain ⟨⟨e0, e1, e2⟩, ⟨p0, p1⟩, hr, ⟨i0, i1⟩, s0⟩ := HX.out W0 (Below.refl _ _)
  clear hI HI HR0 HR1 hy cst I0 I1 T3 hW0 t0 t1 t2 tz tb hr
  go_enter Tryz.func50, Tryz.ntmps50
  go_upto_region 1 with fail
  rw [HW0.out]
  go_upto_region 2 with fail
  obtain ⟨W1, hW1⟩ : ∃ W, W0.alloc (.cells #[.string xs, .slice (some ⟨gs, 0, none⟩) xl.length xc] 65) = W := ⟨_, rfl⟩
  have B1 : Hid (Below W0.heap.size W0 W1) := Lib.hid (hW1 ▸ (Below.refl _ _).alloc (Nat.le_refl _) _)
  have P1 : Hid (W1.heap[w.heap.size + 3]? = some (.cells #[.string xs, .slice (some ⟨gs, 0, none⟩) xl.length xc] 65 (0, 0))) := Lib.hid (by rw [← hW1, ← hzz]; exact heap_alloc_new W0 _)
  have Z1 : Hid (W1.heap.size = W0.heap.size + 1) := Lib.hid (by rw [← hW1]; simp)
  rw [hW1]
  have KP : Hid (∀ W, Below W1.heap.size W1 W → ((W.cell? ⟨w.heap.size + 1, 0, none⟩ = some (.int .i64 1) ∧ W.cell? ⟨w.heap.size + 1, 1, none⟩ = some (.int .i64 po)) ∧ (W.cell? ⟨w.heap.size + 3, 0, none⟩ = some (.string xs) ∧ W.cell? ⟨w.heap.size + 3, 1, none⟩ = some (.slice (some ⟨gs, 0, none⟩) xl.length xc)) ∧ W.cell? ⟨gs, ky * 3 + 1, none⟩ = some (.int .i64 st) ∧ (W.cell? ⟨w.heap.size + 1 + 1, 0, none⟩ = some (.int .i64 0) ∧ W.cell? ⟨w.heap.size + 1 + 1, 1, none⟩ = some (.int .i64 0)) ∧ (W.frozen? ⟨w.heap.size + 1 + 1, 0, none⟩ = false ∧ W.frozen? ⟨w.heap.size + 1 + 1, 1, none⟩ = false))) := Lib.hid (fun W hb => by
    have hz1 := Z1.out
    have hb0 : Below W0.heap.size W0 W := B1.out.trans (hb.mono (by omega))
    obtain ⟨_, q1, q2, _, q3⟩ := HX.out W hb0
    have h3 := (hb.block (w.heap.size + 3) (by omega)).trans P1.out
    exact ⟨q1, ⟨(blk h3).1 0 _ rfl, (blk h3).1 1 _ rfl⟩, q3, ⟨(blk q2).1 0 _ rfl, (blk q2).1 1 _ rfl⟩, (blk q2).2.1 0, (blk q2).2.1 1⟩)
  have HRW := Lib.hid (fun W (hb : Below W1.heap.size W1 W) => HR.out.below (HB0.out.trans ((B1.out.trans (hb.mono (by have := Z1.out; omega))).mono (show w.heap.size ≤ W0.heap.size by omega))))
  have HBF : Hid (∀ W, Below W1.heap.size W1 W → Below w.heap.size w W) := Lib.hid (fun W hb => HB0.out.trans ((B1.out.trans (hb.mono (by have := Z1.out; omega))).mono (show w.heap.size ≤ W0.heap.size by omega)))
  clear hW1 e0 e1 e2 p0 p1 i0 i1 s0 HW0 HR
  refine E_start (S := (fun W => ((W.cell? ⟨w.heap.size + 1, 0, none⟩ = some (.int .i64 1) ∧ W.cell? ⟨w.heap.size + 1, 1, none⟩ = some (.int .i64 po)) ∧ (W.cell? ⟨w.heap.size + 3, 0, none⟩ = some (.string xs) ∧ W.cell? ⟨w.heap.size + 3, 1, none⟩ = some (.slice (some ⟨gs, 0, none⟩) xl.length xc)) ∧ W.cell? ⟨gs, ky * 3 + 1, none⟩ = some (.int .i64 st) ∧ (W.cell? ⟨w.heap.size + 1 + 1, 0, none⟩ = some (.int .i64 0) ∧ W.cell? ⟨w.heap.size + 1 + 1, 1, none⟩ = some (.int .i64 0)) ∧ (W.frozen? ⟨w.heap.size + 1 + 1, 0, none⟩ = false ∧ W.frozen? ⟨w.heap.size + 1 + 1, 1, none⟩ = false)))) 12 (by kernel_rfl) (KP.out _ (Below.refl W1.heap.size W1).drew) (fun hHeld => ?_)
  refine E_take (i := 0) (oi := _) (v := ?_) rfl (by kernel_rfl) (fun _ _ _ h => h) ?_ (by assumption) ?_
  rotate_left 1
  · (refine Or.inl ⟨by rfl, ?_⟩; intro w hSw; (try dsimp only at hSw); (try simp only [List.getElem_toArray, List.getElem_cons_zero, List.getElem_cons_succ]); go_simp; (first | done | with_reducible rfl))
  try simp only [Act.put, List.setIfInBounds_toArray, List.set_cons_zero, List.set_cons_succ, List.getElem_toArray, List.getElem_cons_zero, List.getElem_cons_succ]
  refine E_take (i := 1) (oi := _) (v := ?_) rfl (by kernel_rfl) (fun _ _ _ h => h) ?_ (by assumption) ?_
  rotate_left 1
  · (refine Or.inl ⟨by rfl, ?_⟩; intro w hSw; (try dsimp only at hSw); (try simp only [List.getElem_toArray, List.getElem_cons_zero, List.getElem_cons_succ]); go_simp; (first | done | with_reducible rfl))
  try simp only [Act.put, List.setIfInBounds_toArray, List.set_cons_zero, List.set_cons_succ, List.getElem_toArray, List.getElem_cons_zero, List.getElem_cons_succ]
  refine E_take (i := 2) (oi := _) (v := ?_) rfl (by kernel_rfl) (fun _ _ _ h => h) ?_ (by assumption) ?_
  rotate_left 1
  · (refine Or.inl ⟨by rfl, ?_⟩; intro w hSw; (try dsimp only at hSw); (try simp only [List.getElem_toArray, List.getElem_cons_zero, List.getElem_cons_succ]); go_simp; (first | done | with_reducible rfl))
  try simp only [Act.put, List.setIfInBounds_toArray, List.set_cons_zero, List.set_cons_succ, List.getElem_toArray, List.getElem_cons_zero, List.getElem_cons_succ]
  refine E_take (i := 3) (oi := _) (v := ?_) rfl (by kernel_rfl) (fun _ _ _ h => h) ?_ (by assumption) ?_
  rotate_left 1
  · (refine Or.inl ⟨by rfl, ?_⟩; intro w hSw; (try dsimp only at hSw); (try simp only [List.getElem_toArray, List.getElem_cons_zero, List.getElem_cons_succ]); go_simp; (first | done | with_reducible rfl))
  try simp only [Act.put, List.setIfInBounds_toArray, List.set_cons_zero, List.set_cons_succ, List.getElem_toArray, List.getElem_cons_zero, List.getElem_cons_succ]
  refine E_take (i := 4) (oi := _) (v := ?_) rfl (by kernel_rfl) (fun _ _ _ h => h) ?_ (by assumption) ?_
  rotate_left 1
  · (refine Or.inl ⟨by rfl, ?_⟩; intro w hSw; (try dsimp only at hSw); (try simp only [List.getElem_toArray, List.getElem_cons_zero, List.getElem_cons_succ]); go_simp; (first | done | with_reducible rfl))
  try simp only [Act.put, List.setIfInBounds_toArray, List.set_cons_zero, List.set_cons_succ, List.getElem_toArray, List.getElem_cons_zero, List.getElem_cons_succ]
  refine E_take (i := 5) (oi := _) (v := ?_) rfl (by kernel_rfl) (fun _ _ _ h => h) ?_ (by assumption) ?_
  rotate_left 1
  · (refine Or.inl ⟨by rfl, ?_⟩; intro w hSw; (try dsimp only at hSw); (try simp only [List.getElem_toArray, List.getElem_cons_zero, List.getElem_cons_succ]); go_simp; (first | done | with_reducible rfl))
  try simp only [Act.put, List.setIfInBounds_toArray, List.set_cons_zero, List.set_cons_succ, List.getElem_toArray, List.getElem_cons_zero, List.getElem_cons_succ]
  refine E_take (i := 6) (oi := _) (v := ?_) rfl (by kernel_rfl) (fun _ _ _ h => h) ?_ (by assumption) ?_
  rotate_left 1
  · (refine Or.inl ⟨by rfl, ?_⟩; intro w hSw; (try dsimp only at hSw); (try simp only [List.getElem_toArray, List.getElem_cons_zero, List.getElem_cons_succ]); go_simp; (first | done | with_reducible rfl))
  try simp only [Act.put, List.setIfInBounds_toArray, List.set_cons_zero, List.set_cons_succ, List.getElem_toArray, List.getElem_cons_zero, List.getElem_cons_succ]
  refine E_ready (rs := [7]) (by kernel_rfl) (by decide) ?_
  refine AllE.cons (o := _) rfl (fun K hK => ?_) AllE.nil
  try simp only [List.getElem_toArray, List.getElem_cons_zero, List.getElem_cons_succ]
  go_simp
  refine (SY.out _ (HRW.out _ (Below.refl W1.heap.size W1).drew)).mono ?_
  rintro e w5 ⟨rfl, b5⟩
  go_wp2_with fail
  refine hK.out _ _ (KP.out _ (undrew b5)) (fun hHeld => ?_)
  clear hK K
  try simp only [Act.put, List.setIfInBounds_toArray, List.set_cons_zero, List.set_cons_succ, List.getElem_toArray, List.getElem_cons_zero, List.getElem_cons_succ]
  refine E_take (i := 8) (oi := _) (v := ?_) rfl (by kernel_rfl) (fun _ _ _ h => h) ?_ (by assumption) ?_
  rotate_left 1
  · (refine Or.inl ⟨by rfl, ?_⟩; intro w hSw; (try dsimp only at hSw); (try simp only [List.getElem_toArray, List.getElem_cons_zero, List.getElem_cons_succ]); go_simp; (first | done | with_reducible rfl))
  try simp only [Act.put, List.setIfInBounds_toArray, List.set_cons_zero, List.set_cons_succ, List.getElem_toArray, List.getElem_cons_zero, List.getElem_cons_succ]
  refine E_take (i := 9) (oi := _) (v := ?_) rfl (by kernel_rfl) (fun _ _ _ h => h) ?_ (by assumption) ?_
  rotate_left 1
  · (refine Or.inl ⟨by rfl, ?_⟩; intro w hSw; (try dsimp only at hSw); (try simp only [List.getElem_toArray, List.getElem_cons_zero, List.getElem_cons_succ]); go_simp; (first | done | with_reducible rfl))
  try simp only [Act.put, List.setIfInBounds_toArray, List.set_cons_zero, List.set_cons_succ, List.getElem_toArray, List.getElem_cons_zero, List.getElem_cons_succ]
  refine E_take (i := 10) (oi := _) (v := ?_) rfl (by kernel_rfl) (fun _ _ _ h => h) ?_ (by assumption) ?_
  rotate_left 1
  · (refine Or.inl ⟨by rfl, ?_⟩; intro w hSw; (try dsimp only at hSw); (try simp only [List.getElem_toArray, List.getElem_cons_zero, List.getElem_cons_succ]); go_simp; (first | done | with_reducible rfl))
  try simp only [Act.put, List.setIfInBounds_toArray, List.set_cons_zero, List.set_cons_succ, List.getElem_toArray, List.getElem_cons_zero, List.getElem_cons_succ]
  refine E_take (i := 11) (oi := _) (v := ?_) rfl (by kernel_rfl) (fun _ _ _ h => h) ?_ (by assumption) ?_
  rotate_left 1
  · (refine Or.inl ⟨by rfl, ?_⟩; intro w hSw; (try dsimp only at hSw); (try simp only [List.getElem_toArray, List.getElem_cons_zero, List.getElem_cons_succ]); go_simp; (first | done | with_reducible rfl))
  try simp only [Act.put, List.setIfInBounds_toArray, List.set_cons_zero, List.set_cons_succ, List.getElem_toArray, List.getElem_cons_zero, List.getElem_cons_succ]
  obtain ⟨⟨p6, p7⟩, ⟨i6, i7⟩, s5, ⟨y6, y7⟩, y8, y9⟩ := KP.out _ (undrew b5)
  refine E_last (o := _) (by kernel_rfl) rfl (by kernel_rfl) (fun K hK => ?_)
  try simp only [List.getElem_toArray, List.getElem_cons_zero, List.getElem_cons_succ]
  go_simp
  refine hK.out _ _ ?_
  clear hK K
  have HB5 := Lib.hid (HBF.out _ (undrew b5))
  clear b5
  go_wp2
  refine bodyPost_ret (v := .agg #[.int .i64 1, .int .i64 st]) (by simp [results, Tryz.results50, go_sem, y6, y7]) rfl ⟨rfl, (HB5.out.setCell (by simp; try omega) _).setCell (by simp; try omega) _⟩
end Go.Proofs.YtakgjlpgcepnkaaGreat

/-! The program's isCode, shapeOf and OpSize -/
namespace Go.Proofs.YtakgjlpgcepnkaaGreat
open Go.RowKit Go.Lib

theorem i_code (c : Int) (w : World) : Calls Tryz.prog 114 #[.int .i64 c] w fun e w' => e = .returned (.bool (codeB c)) ∧ w = w' := by
  by_cases h1 : 0 ≤ c <;> by_cases h2 : c ≤ 17
  all_goals
    go_enter Tryz.func114, Tryz.ntmps114
    go_wp2
    go_ret
    exact ⟨ret_b7 (by unfold codeB; simp [h1, h2]), rfl⟩

set_option maxHeartbeats 2000000 in
theorem i_shape (c : Int) (w : World) : Calls Tryz.prog 100 #[.int .i64 c] w fun e w' => e = .returned (.agg #[.int .i64 (widN c : Int), .bool (sgnB c)]) ∧ Below w.heap.size w w' := by
  rcases code_cases c with rfl | rfl | rfl | rfl | rfl | rfl | rfl | rfl | rfl | rfl | rfl | rfl | h
  case inr.inr.inr.inr.inr.inr.inr.inr.inr.inr.inr.inr =>
    have HW := Lib.hid (widN_none c h)
    obtain ⟨h0, h1, h2, h3, h4, h5, h6, h7, h8, h9, h10, h11⟩ := h
    go_enter Tryz.func100, Tryz.ntmps100
    go_wp2
    refine bodyPost_ret (v := .agg #[.int .i64 0, .bool false]) (by simp [results, Tryz.results100, go_sem]) rfl ⟨by rw [HW.out.1, HW.out.2]; rfl, ?_⟩
    exact (Below.refl _ _).alloc (Nat.le_refl _) _
  all_goals
    go_enter Tryz.func100, Tryz.ntmps100
    go_wp2
    first
    | refine bodyPost_ret (v := .agg #[.int .i64 4, .bool true]) (by simp [results, Tryz.results100, go_sem]) rfl ⟨rfl, ?_⟩
    | refine bodyPost_ret (v := .agg #[.int .i64 2, .bool true]) (by simp [results, Tryz.results100, go_sem]) rfl ⟨rfl, ?_⟩
    | refine bodyPost_ret (v := .agg #[.int .i64 2, .bool false]) (by simp [results, Tryz.results100, go_sem]) rfl ⟨rfl, ?_⟩
    | refine bodyPost_ret (v := .agg #[.int .i64 1, .bool false]) (by simp [results, Tryz.results100, go_sem]) rfl ⟨rfl, ?_⟩
    exact (Below.refl _ _).alloc (Nat.le_refl _) _

theorem run_size (m : Int) (b : Bool) (w : World) : (Instr.field 129 (.agg #[.int .i64 m, .bool b]) 0).run Tryz.prog w = .ok (.int .i64 m) w := by kernel_rfl

theorem i_size (c : Int) (w : World) : Calls Tryz.prog 111 #[.int .i64 c] w fun e w' => e = .returned (.int .i64 (sizZ c)) ∧ Below w.heap.size w w' := by
  have hw := widN_le c
  obtain ⟨m, hm⟩ : ∃ m : Nat, widN c = m := ⟨_, rfl⟩
  have S := Lib.hid (fun W => i_shape c W)
  rw [hm] at S hw
  have C := Lib.hid (fun W => i_code c W)
  have HR : Hid (sizZ c = if codeB c = true then 1 + (m : Int) else 0) := Lib.hid (by unfold sizZ; rw [hm])
  clear hm
  obtain ⟨b, hb⟩ : ∃ b, codeB c = b := ⟨_, rfl⟩
  rw [hb] at C HR
  clear hb
  have F := fun (W : World) => run_size (m : Int) (sgnB c) W
  cases b
  · clear F
    go_enter Tryz.func111, Tryz.ntmps111
    go_wp2_with (first | (go_at_call 114; refine (C.out _).mono ?_; rintro e w' ⟨rfl, rfl⟩))
    go_ret
    exact ⟨ret_i7 HR.out.symm, Below.refl _ _⟩
  · go_enter Tryz.func111, Tryz.ntmps111
    go_wp2_with (first | (go_at_call 114; refine (C.out _).mono ?_; rintro e w' ⟨rfl, rfl⟩) | (go_at_call 100; refine (S.out _).mono ?_; rintro e w1 ⟨rfl, b1⟩))
    go_ret
    exact ⟨ret_i7 HR.out.symm, b1⟩
end Go.Proofs.YtakgjlpgcepnkaaGreat

/-! The program's sizeAt: how many bytes the instruction at an index has -/
namespace Go.Proofs.YtakgjlpgcepnkaaGreat
open Go.RowKit Go.Lib

/-- How many bytes the instruction has that begins at an index: 0 if there is none. -/
def stepN : Option (OpL × Nat) → Nat
  | none => 0
  | some y => y.2
theorem i_stp_out (s : ByteArray) (a : Int) (w : World) (hm : s.size ≤ maxLen) (h : a < 0 ∨ (s.size : Int) ≤ a) :
    Calls Tryz.prog 96 #[.string s, .int .i64 a] w fun e w' => e = .returned (.int .i64 0) ∧ Below w.heap.size w w' := by
  unfold maxLen at hm
  by_cases h1 : a < 0
  · clear h
    go_enter Tryz.func96, Tryz.ntmps96
    go_wp2
    go_ret
    exact ⟨rfl, Below.refl _ _⟩
  · have h2 : (s.size : Int) ≤ a := by omega
    clear h
    go_enter Tryz.func96, Tryz.ntmps96
    go_wp2
    go_ret
    exact ⟨rfl, Below.refl _ _⟩
set_option maxRecDepth 100000 in
set_option maxHeartbeats 1000000 in
theorem i_stp_in (s : ByteArray) (i : Nat) (w : World) (hm : s.size ≤ 4294967296) (h : i < s.size) :
    Calls Tryz.prog 96 #[.string s, .int .i64 (i : Int)] w fun e w' => e = .returned (.int .i64 (stepN (decZ s.data.toList (i : Int)) : Nat)) ∧ Below w.heap.size w w' := by
  have hl : i < s.data.toList.length := by rw [list_len]; exact h
  have HR := Lib.hid (decZ_in s.data.toList i hl)
  have hg : s.data.toList[i] = s[i]'h := rfl
  rw [hg] at HR
  have SI := Lib.hid (fun W => i_size ((s[i]'h).toNat : Int) W)
  have hb := (s[i]'h).toNat_lt
  have hwc : wrap64 ((s[i]'h).toNat : Int) = ((s[i]'h).toNat : Int) := by unfold wrap64; omega
  obtain ⟨c, hc⟩ : ∃ c : Int, ((s[i]'h).toNat : Int) = c := ⟨_, rfl⟩
  rw [hc] at HR SI
  have hc0 : 0 ≤ c := by omega
  have hc1 : c < 256 := by omega
  have HC := Lib.hid hc
  have hw4 := widN_le c
  have HSZ := Lib.hid (sizZ_zero c hc0)
  have HSC := Lib.hid (sizZ_code c hc0)
  have hi1 : (i : Int) < (s.size : Int) := by omega
  have hi0 : (0 : Int) ≤ (i : Int) := by omega
  have hmi : (s.size : Int) ≤ 4294967296 := by omega
  obtain ⟨n, hn, HN⟩ : ∃ n : Nat, sizZ c = (n : Int) ∧ Hid (stepN (decZ s.data.toList (i : Int)) = if (s.size : Int) - (i : Int) < (n : Int) then 0 else n) := by
    by_cases h17 : 17 < c
    · refine ⟨0, HSZ.out.2 h17, Lib.hid ?_⟩
      rw [HR.out, if_neg (fun hh => by omega), if_neg (by omega)]
      rfl
    · refine ⟨1 + widN c, by rw [HSC.out (by omega)]; omega, Lib.hid ?_⟩
      rw [HR.out]
      by_cases hf : (s.size : Int) - (i : Int) < ((1 + widN c : Nat) : Int)
      · rw [if_neg (fun hh => by have h2 := hh.2; rw [List.length_drop, list_len] at h2; omega), if_pos hf]
        rfl
      · rw [if_pos ⟨by omega, by rw [List.length_drop, list_len]; omega⟩, if_neg hf]
        rfl
  rw [hn] at SI
  have hn5 : n ≤ 5 := by
    by_cases h17 : 17 < c
    · have := HSZ.out.2 h17; omega
    · have := HSC.out (by omega); omega
  clear hc hb hg hl HSZ HSC HR hn hw4
  by_cases hfar : (s.size : Int) - (i : Int) < (n : Int)
  · rw [if_pos hfar] at HN
    go_enter Tryz.func96, Tryz.ntmps96
    go_wp2_with fail
    rw [HC.out]
    clear hwc
    refine (SI.out _).mono ?_
    rintro e w1 ⟨rfl, b1⟩
    have HB1 := Lib.hid b1
    clear b1
    go_wp2
    go_ret
    exact ⟨by rw [HN.out]; rfl, HB1.out⟩
  · rw [if_neg hfar] at HN
    go_enter Tryz.func96, Tryz.ntmps96
    go_wp2_with fail
    rw [HC.out]
    clear hwc
    refine (SI.out _).mono ?_
    rintro e w1 ⟨rfl, b1⟩
    have HB1 := Lib.hid b1
    clear b1
    go_wp2
    go_ret
    exact ⟨by rw [HN.out]; rfl, HB1.out⟩
theorem i_stp (s : ByteArray) (a : Int) (w : World) (hm : s.size ≤ 4294967296) :
    Calls Tryz.prog 96 #[.string s, .int .i64 a] w fun e w' => e = .returned (.int .i64 (stepN (decZ s.data.toList a) : Nat)) ∧ Below w.heap.size w w' := by
  by_cases h : a < 0 ∨ (s.size : Int) ≤ a
  · have hz : decZ s.data.toList a = none := by
      rcases h with h | h
      · exact decZ_neg _ _ h
      · exact decZ_far _ _ (by rw [list_len]; exact h)
    rw [hz]
    exact i_stp_out s a w (by unfold maxLen; omega) h
  · obtain ⟨i, rfl⟩ := Int.eq_ofNat_of_zero_le (show 0 ≤ a by omega)
    exact i_stp_in s i w hm (by omega)
end Go.Proofs.YtakgjlpgcepnkaaGreat

/-! The program's canDisassemble: whether bytes consist of instructions -/
namespace Go.Proofs.YtakgjlpgcepnkaaGreat
open Go.RowKit Go.Lib

set_option maxRecDepth 100000 in
set_option maxHeartbeats 1000000 in
theorem i_can (s : ByteArray) (w : World) (hm : s.size ≤ 1048576) :
    Calls Tryz.prog 70 #[.string s] w fun e w' => e = .returned (.bool (disB s.data.toList)) ∧ Below w.heap.size w w' := by
  have hll : s.data.toList.length = s.size := list_len s
  have HLL := Lib.hid hll
  have DC := Lib.hid (fun W (x : Int) => i_stp s x W (by omega))
  have ST := Lib.hid (Dis.start s.data.toList)
  have hms : (s.size : Int) ≤ 1048576 := by omega
  clear hll
  go_enter Tryz.func70, Tryz.ntmps70
  go_wp2_with fail
  go_loopw [3, 4] (fun x _ wr => ∃ (k : Nat), x = .int .i64 (k : Int) ∧ Hid (∃ D, Dis s.data.toList k D) ∧ k ≤ s.size ∧ Below w.heap.size w wr)
    (fun x _ _ => s.size - (intOf x).toNat)
  case atStart => exact ⟨0, rfl, Lib.hid ⟨[], ST.out⟩, Nat.zero_le _, Below.refl _ _⟩
  case round =>
    obtain ⟨k, rfl, HD, hk, hbel⟩ := hrel
    have HB := Lib.hid hbel
    have hB := hbel.size
    have HZ := Lib.hid (decZ_drop s.data.toList k)
    clear hbel
    by_cases hlt : k < s.size
    · have k0 : (0 : Int) ≤ (k : Int) := by omega
      have k1 : (k : Int) < (s.size : Int) := by omega
      cases hx : dec1 (s.data.toList.drop k) with
      | none =>
        have HN : Hid (disB s.data.toList = false) := Lib.hid (by obtain ⟨D, hD⟩ := HD.out; exact (hD.bad (by have := HLL.out; omega) hx).2)
        have DCk : Hid (∀ W : World, Calls Tryz.prog 96 #[.string s, .int .i64 (k : Int)] W fun e w' => e = .returned (.int .i64 0) ∧ Below W.heap.size W w') := Lib.hid (fun W => by
          have h := DC.out W (k : Int)
          rw [HZ.out, hx] at h
          exact h)
        clear hx
        go_wp2_with fail
        refine (DCk.out _).mono ?_
        rintro e w1 ⟨rfl, b1⟩
        have HB1 : Hid (Below w.heap.size w w1) := Lib.hid (HB.out.trans (b1.mono (by omega)))
        clear b1
        go_wp2
        go_ret
        exact ⟨by rw [HN.out]; rfl, HB1.out⟩
      | some y =>
        obtain ⟨x, n⟩ := y
        have HN : Hid (∃ D, Dis s.data.toList (k + n) D) := Lib.hid (by obtain ⟨D, hD⟩ := HD.out; exact ⟨_, hD.next hx⟩)
        have hsz := dec1_size _ _ _ hx
        rw [List.length_drop, HLL.out] at hsz
        have DCk : Hid (∀ W : World, Calls Tryz.prog 96 #[.string s, .int .i64 (k : Int)] W fun e w' => e = .returned (.int .i64 (n : Int)) ∧ Below W.heap.size W w') := Lib.hid (fun W => by
          have h := DC.out W (k : Int)
          rw [HZ.out, hx] at h
          exact h)
        have hn1 := hsz.1
        have hn2 : k + n ≤ s.size := by omega
        have hz : ((n : Int) == 0) = false := beq_eq_false_iff_ne.2 (by omega)
        clear hx hsz
        go_wp2_with fail
        refine (DCk.out _).mono ?_
        rintro e w1 ⟨rfl, b1⟩
        have HB1 : Hid (Below w.heap.size w w1) := Lib.hid (HB.out.trans (b1.mono (by omega)))
        clear b1
        go_wp2
        go_roundw
        case rel => exact ⟨k + n, by go_num, HN.out, hn2, HB1.out⟩
        case measure => simp [intOf]; omega
    · have HN : Hid (disB s.data.toList = true) := Lib.hid (by obtain ⟨D, hD⟩ := HD.out; exact (hD.done (show k = s.data.toList.length by have := HLL.out; omega)).2)
      have k1 : ¬ (k : Int) < (s.size : Int) := by omega
      go_wp2
      go_ret
      exact ⟨by rw [HN.out]; rfl, HB.out⟩
end Go.Proofs.YtakgjlpgcepnkaaGreat
