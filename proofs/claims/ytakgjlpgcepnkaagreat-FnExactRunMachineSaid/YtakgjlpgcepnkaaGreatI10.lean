/- Address spaces, the model's; Address spaces, the program's: where a byte is, where its symbol begins, whether images overlap. -/
import Derived.Test.YtakgjlpgcepnkaaGreatI07
import Derived.Test.YtakgjlpgcepnkaaGreatI08
import Derived.Test.YtakgjlpgcepnkaaGreatI09
import Derived.Deep.DeepCutAuto
import Derived.Deep.RegionHeld3
import Derived.Deep.QuietTactic
import Derived.BigQuiet
import Derived.Lib.MinMax
import Derived.Deep.RegionWith
/-! Address spaces, the model's -/
namespace Go.Proofs.YtakgjlpgcepnkaaGreat
open Go.RowKit Go.Lib

theorem readIms2 {w : World} {a : Option Addr} {x0 x1 : ImA} (h : ReadIms w a [x0, x1]) : ∃ g, a = some ⟨g, 0, none⟩ ∧ g < w.heap.size ∧ (w.cell? ⟨g, 0, none⟩ = some (.string x0.s) ∧ w.cell? ⟨g, 1, none⟩ = some (.slice x0.a x0.l.length x0.c) ∧ w.cell? ⟨g, 2, none⟩ = some (.string x1.s) ∧ w.cell? ⟨g, 3, none⟩ = some (.slice x1.a x1.l.length x1.c)) ∧ ReadSy w x0.a x0.l ∧ ReadSy w x1.a x1.l := by
  obtain ⟨g, e, hg, p0, p1, r0⟩ := h 0 (by simp)
  obtain ⟨g', e', _, q0, q1, r1⟩ := h 1 (by simp)
  rw [e] at e'
  injection e' with e'
  injection e' with e'
  subst e'
  exact ⟨g, e, hg, ⟨p0, p1, q0, q1⟩, r0, r1⟩
theorem readI2 {w : World} {a : Option Addr} {x0 x1 : Int} (h : ReadI w a [x0, x1]) : ∃ g, a = some ⟨g, 0, none⟩ ∧ g < w.heap.size ∧ w.cell? ⟨g, 0, none⟩ = some (.int .i64 x0) ∧ w.cell? ⟨g, 1, none⟩ = some (.int .i64 x1) := by
  obtain ⟨g, e, hg, p0⟩ := h 0 (by simp)
  obtain ⟨g', e', _, q0⟩ := h 1 (by simp)
  rw [e] at e'
  injection e' with e'
  injection e' with e'
  subst e'
  exact ⟨g, e, hg, p0, q0⟩
/-- The tuple of an image and an offset. -/
def locV (p : Int × Int) : Value := .tuple #[.int .i64 p.1, .int .i64 p.2]

set_option maxRecDepth 100000 in
set_option maxHeartbeats 4000000 in
theorem s_l10Locate (x0 x1 : ImA) (b0 b1 a : Int) (a0 a1 a2 : Option Addr) (c0 c1 c2 n2 : Nat) (w : World) (hI : ReadIms w a0 [x0, x1]) (hB : ReadI w a1 [b0, b1]) (l0 : 1 ≤ b0) (u0 : b0 ≤ 1000000) (l1 : 1 ≤ b1) (u1 : b1 ≤ 1000000) (z0 : x0.s.size ≤ 1048576) (z1 : x1.s.size ≤ 1048576) (ha : a ≤ 9223372036854775807) :
    Calls Tryz.prog 38 #[.agg #[.slice a0 2 c0, .slice a1 2 c1, .slice a2 n2 c2], .int .i64 a] w fun e w' => e = .returned (locV (spA x0 x1 b0 b1 a)) ∧ Below w.heap.size w w' := by
  obtain ⟨g, rfl, hg, HI, _⟩ := readIms2 hI
  obtain ⟨k, rfl, hk, HB1, HB2⟩ := readI2 hB
  have HX : Hid (∀ W, Below (w.heap.size + 1) (w.alloc (.cells #[.slice (some ⟨g, 0, none⟩) 2 c0, .slice (some ⟨k, 0, none⟩) 2 c1, .slice a2 n2 c2] 34)) W → (W.cell? ⟨w.heap.size, 0, none⟩ = some (.slice (some ⟨g, 0, none⟩) 2 c0) ∧ W.cell? ⟨w.heap.size, 1, none⟩ = some (.slice (some ⟨k, 0, none⟩) 2 c1)) ∧ (W.cell? ⟨g, 0, none⟩ = some (.string x0.s) ∧ W.cell? ⟨g, 2, none⟩ = some (.string x1.s)) ∧ (W.cell? ⟨k, 0, none⟩ = some (.int .i64 b0) ∧ W.cell? ⟨k, 1, none⟩ = some (.int .i64 b1)) ∧ Below w.heap.size w W) := Lib.hid (fun W hb => by
    have b' : Below w.heap.size w W := ((Below.refl w.heap.size w).alloc (Nat.le_refl _) _).trans (hb.mono (by omega))
    have hn := (hb.block w.heap.size (by omega)).trans (heap_alloc_new w _)
    exact ⟨⟨(blk hn).1 0 _ rfl, (blk hn).1 1 _ rfl⟩, ⟨(b'.cell (p := ⟨g, 0, none⟩) hg).trans HI.1, (b'.cell (p := ⟨g, 2, none⟩) hg).trans HI.2.2.1⟩, ⟨(b'.cell (p := ⟨k, 0, none⟩) hk).trans HB1, (b'.cell (p := ⟨k, 1, none⟩) hk).trans HB2⟩, b'⟩)
  have HS : Hid (spA x0 x1 b0 b1 a = spotZ b0 x0.s.size b1 x1.s.size a) := Lib.hid rfl
  clear hI hB HI HB1 HB2 hg hk
  generalize x0.s = s0 at *
  generalize x1.s = s1 at *
  go_enter Tryz.func38, Tryz.ntmps38
  go_wp2_with fail
  go_loopw [4, 5, 6] (fun _ _ i wr => ∃ q : Nat, q ≤ 2 ∧ i = .int .i64 (q : Int) ∧ Hid (1 ≤ q → ¬(b0 ≤ a ∧ a < b0 + (s0.size : Int))) ∧ Hid (2 ≤ q → ¬(b1 ≤ a ∧ a < b1 + (s1.size : Int))) ∧ Hid (Below (w.heap.size + 1) (w.alloc (.cells #[.slice (some ⟨g, 0, none⟩) 2 c0, .slice (some ⟨k, 0, none⟩) 2 c1, .slice a2 n2 c2] 34)) wr)) (fun _ _ i _ => 2 - (RowKit.intOf i).toNat)
  case atStart => exact ⟨0, by omega, rfl, Lib.hid (fun h => by omega), Lib.hid (fun h => by omega), Lib.hid (Below.refl _ _)⟩
  case round =>
    obtain ⟨q, hq, rfl, N0, N1, HB⟩ := hrel
    obtain ⟨⟨e0, e1⟩, ⟨i0, i1⟩, ⟨p0, p1⟩, HBW⟩ := HX.out _ HB.out
    have HBW := Lib.hid HBW
    match q, hq with
    | 0, _ =>
      have HNX := Lib.hid N0
      have u : IntKind.i64.wrap (b0 + (s0.size : Int)) = b0 + (s0.size : Int) := IntWalk.i64_in _ (by omega)
      by_cases h1 : b0 ≤ a
      · by_cases h2 : a < b0 + (s0.size : Int)
        · have v : IntKind.i64.wrap (a - b0) = a - b0 := IntWalk.i64_in _ (by omega)
          have HV : Hid (spA x0 x1 b0 b1 a = (0, a - b0)) := Lib.hid (by rw [HS.out]; exact spot_0 h1 h2)
          clear N0 N1 HNX
          go_wp2_with fail
          go_quiet (fail)
          go_wp2_with fail
          go_quiet (fail)
          go_wp2
          go_ret2
          exact ⟨by rw [HV.out]; rfl, drewN_b (drewN_b HBW.out _) _⟩
        · have M : Hid (¬(b0 ≤ a ∧ a < b0 + (s0.size : Int))) := Lib.hid (fun hh => h2 hh.2)
          go_wp2_with fail
          go_quiet (fail)
          go_wp2
          go_roundw
          case rel => exact ⟨1, by omega, by go_num, Lib.hid (fun _ => M.out), Lib.hid (fun h => by omega), Lib.hid (drewN_b HB.out _)⟩
          case measure => simp [RowKit.intOf]
      · have M : Hid (¬(b0 ≤ a ∧ a < b0 + (s0.size : Int))) := Lib.hid (fun hh => h1 hh.1)
        have hd : decide (b0 ≤ a) = false := decide_eq_false h1
        go_wp2_with fail
        go_quiet (fail)
        go_wp2
        go_roundw
        case rel => exact ⟨1, by omega, by go_num, Lib.hid (fun _ => M.out), Lib.hid (fun h => by omega), Lib.hid (drewN_b HB.out _)⟩
        case measure => simp [RowKit.intOf]
    | 1, _ =>
      have HNX := Lib.hid N0
      have u : IntKind.i64.wrap (b1 + (s1.size : Int)) = b1 + (s1.size : Int) := IntWalk.i64_in _ (by omega)
      by_cases h1 : b1 ≤ a
      · by_cases h2 : a < b1 + (s1.size : Int)
        · have v : IntKind.i64.wrap (a - b1) = a - b1 := IntWalk.i64_in _ (by omega)
          have HV : Hid (spA x0 x1 b0 b1 a = (1, a - b1)) := Lib.hid (by rw [HS.out]; exact spot_1 (N0.out (by omega)) h1 h2)
          clear N0 N1 HNX
          go_wp2_with fail
          go_quiet (fail)
          go_wp2_with fail
          go_quiet (fail)
          go_wp2
          go_ret2
          exact ⟨by rw [HV.out]; rfl, drewN_b (drewN_b HBW.out _) _⟩
        · have M : Hid (¬(b1 ≤ a ∧ a < b1 + (s1.size : Int))) := Lib.hid (fun hh => h2 hh.2)
          go_wp2_with fail
          go_quiet (fail)
          go_wp2
          go_roundw
          case rel => exact ⟨2, by omega, by go_num, Lib.hid (fun _ => N0.out (by omega)), Lib.hid (fun _ => M.out), Lib.hid (drewN_b HB.out _)⟩
          case measure => simp [RowKit.intOf]
      · have M : Hid (¬(b1 ≤ a ∧ a < b1 + (s1.size : Int))) := Lib.hid (fun hh => h1 hh.1)
        have hd : decide (b1 ≤ a) = false := decide_eq_false h1
        go_wp2_with fail
        go_quiet (fail)
        go_wp2
        go_roundw
        case rel => exact ⟨2, by omega, by go_num, Lib.hid (fun _ => N0.out (by omega)), Lib.hid (fun _ => M.out), Lib.hid (drewN_b HB.out _)⟩
        case measure => simp [RowKit.intOf]
    | 2, _ =>
      have HV : Hid (spA x0 x1 b0 b1 a = (-1, -1)) := Lib.hid (by rw [HS.out]; exact spot_no (N0.out (by omega)) (N1.out (by omega)))
      clear N0 N1
      go_wp2
      go_ret2
      exact ⟨by rw [HV.out]; rfl, HBW.out⟩
/-- The bounds that a law's arguments keep. -/
def SmlSp (x0 x1 : ImA) (E : List Int) : Prop := SmallI x0 ∧ SmallI x1 ∧ (E.length ≤ 1048576) ∧ ∀ e ∈ E, e ≤ 9223372036854775807
theorem ent_all {x0 x1 : ImA} {b0 b1 : Int} {E : List Int} {k : Nat} (hk : k < E.length) (h : entB x0 x1 b0 b1 E[k] = false) : sp2B x0 x1 b0 b1 E = false :=
  sp2_ent (by
    cases hq : E.all (entB x0 x1 b0 b1) with
    | false => rfl
    | true => rw [List.all_eq_true.1 hq _ (List.getElem_mem hk)] at h; cases h)
theorem ent_neg {x0 x1 : ImA} {b0 b1 e : Int} (h : spA x0 x1 b0 b1 e = (-1, -1)) : entB x0 x1 b0 b1 e = false := by unfold entB; rw [h]; rfl
theorem ent_is {x0 x1 : ImA} {b0 b1 e i o : Int} (h : spA x0 x1 b0 b1 e = (i, o)) (hi : ¬ i < 0) : entB x0 x1 b0 b1 e = decide (begZ (symsOf x0 x1 i) o = o) := by unfold entB; rw [h]; simp [hi]
theorem ov_is (x0 x1 : ImA) (b0 b1 : Int) : ovB x0 x1 b0 b1 = (decide (0 < (x0.s.size : Int)) && (decide (0 < (x1.s.size : Int)) && (decide (b0 < b1 + (x1.s.size : Int)) && decide (b1 < b0 + (x0.s.size : Int))))) := by
  unfold ovB
  rw [show decide (b0 < b0 + (x0.s.size : Int)) = decide (0 < (x0.s.size : Int)) from decide_eq_decide.2 (by omega), show decide (b1 < b1 + (x1.s.size : Int)) = decide (0 < (x1.s.size : Int)) from decide_eq_decide.2 (by omega)]
theorem ret_bs {p q : Bool} (h : p = q) : Ending.returned (.bool p) = .returned (.bool q) := by rw [h]

set_option maxRecDepth 100000 in
set_option maxHeartbeats 8000000 in
theorem s_space2 (x0 x1 : ImA) (b0 b1 : Int) (E : List Int) (a0 a1 a2 : Option Addr) (c0 c1 c2 : Nat) (w : World) (hI : ReadIms w a0 [x0, x1]) (hB : ReadI w a1 [b0, b1]) (hE : ReadI w a2 E) (he1 : 1 ≤ E.length) (he6 : E.length ≤ 6) (hs : SmlSp x0 x1 E) :
    Calls Tryz.prog 20 #[.agg #[.slice a0 2 c0, .slice a1 2 c1, .slice a2 E.length c2]] w fun e w' => e = .returned (.bool (sp2B x0 x1 b0 b1 E)) ∧ Below w.heap.size w w' := by
  have HII := Lib.hid hI
  have HBB := Lib.hid hB
  have HEE := Lib.hid hE
  have SI0 := Lib.hid (fun W h => s_imageOk x0.s x0.a x0.c x0.l W hs.1.1 hs.1.2.1 hs.1.2.2 h)
  have SI1 := Lib.hid (fun W h => s_imageOk x1.s x1.a x1.c x1.l W hs.2.1.1 hs.2.1.2.1 hs.2.1.2.2 h)
  have LO := Lib.hid (fun W e he h1 h2 h3 h4 h5 h6 => s_l10Locate x0 x1 b0 b1 e a0 a1 a2 c0 c1 c2 E.length W h1 h2 h3 h4 h5 h6 hs.1.1 hs.2.1.1 he)
  have SY0 := Lib.hid (fun W o h => s_symbolAt x0.s x0.a x0.c x0.l o W (by have := hs.1.2.1; omega) h)
  have SY1 := Lib.hid (fun W o h => s_symbolAt x1.s x1.a x1.c x1.l o W (by have := hs.2.1.2.1; omega) h)
  have HLE := Lib.hid hs.2.2.2
  have OV := Lib.hid (ov_is x0 x1 b0 b1)
  have z0 := hs.1.1
  have z1 := hs.2.1.1
  have B0 := Lib.hid (@sp2_bad0 x0 x1 b0 b1 E)
  have B1 := Lib.hid (@sp2_bad1 x0 x1 b0 b1 E)
  have BO := Lib.hid (@sp2_ov x0 x1 b0 b1 E)
  have BE := Lib.hid (fun k hk h => @ent_all x0 x1 b0 b1 E k hk h)
  have BY := Lib.hid (@sp2_yes x0 x1 b0 b1 E)
  have EN := Lib.hid (fun e => @ent_neg x0 x1 b0 b1 e)
  have EI := Lib.hid (fun e i o => @ent_is x0 x1 b0 b1 e i o)
  have K0 := Lib.hid (show okIB x0 b0 = (imgB x0.s.data.toList x0.l && (decide (1 ≤ b0) && decide (b0 ≤ 1000000))) from rfl)
  have K1 := Lib.hid (show okIB x1 b1 = (imgB x1.s.data.toList x1.l && (decide (1 ≤ b1) && decide (b1 ≤ 1000000))) from rfl)
  have SC := Lib.hid (fun e => (show spA x0 x1 b0 b1 e = spotZ b0 x0.s.size b1 x1.s.size e from rfl) ▸ spot_cases b0 x0.s.size b1 x1.s.size e)
  obtain ⟨g, rfl, hg, HI, HR0, HR1⟩ := readIms2 hI
  obtain ⟨k, rfl, hk, HB1, HB2⟩ := readI2 hB
  have HR0 := Lib.hid HR0
  have HR1 := Lib.hid HR1
  have HS0 : Hid (∀ e, symsOf x0 x1 0 = x0.l ∧ symsOf x0 x1 1 = x1.l ∧ e = e) := Lib.hid (fun (e : Int) => ⟨rfl, rfl, rfl⟩)
  have I1 := Lib.hid (fun W => s_in9 (E.length : Int) 1 6 W)
  rw [decide_eq_true (show (1 : Int) ≤ (E.length : Int) by omega), decide_eq_true (show (E.length : Int) ≤ 6 by omega)] at I1
  have IB0 := Lib.hid (fun W => s_in9 b0 1 1000000 W)
  have IB1 := Lib.hid (fun W => s_in9 b1 1 1000000 W)
  obtain ⟨V, hV⟩ : ∃ V, sp2B x0 x1 b0 b1 E = V := ⟨_, rfl⟩
  rw [hV] at B0 B1 BO BE BY ⊢
  obtain ⟨sp, hsp⟩ : ∃ f, spA x0 x1 b0 b1 = f := ⟨_, rfl⟩
  rw [hsp] at LO EN EI SC
  obtain ⟨en, hen⟩ : ∃ f, entB x0 x1 b0 b1 = f := ⟨_, rfl⟩
  rw [hen] at BE BY EN EI
  obtain ⟨ov, hov⟩ : ∃ f, ovB x0 x1 b0 b1 = f := ⟨_, rfl⟩
  rw [hov] at BO BY OV
  obtain ⟨k0, hk0⟩ : ∃ f, okIB x0 b0 = f := ⟨_, rfl⟩
  obtain ⟨k1, hk1⟩ : ∃ f, okIB x1 b1 = f := ⟨_, rfl⟩
  rw [hk0] at B0 BY K0
  rw [hk1] at B1 BY K1
  obtain ⟨sy, hsy⟩ : ∃ f, symsOf x0 x1 = f := ⟨_, rfl⟩
  rw [hsy] at EI HS0
  clear hI hB hE hs hV hsp hen hov hk0 hk1 hsy
  obtain ⟨s0, L0, y0, d0⟩ := x0
  obtain ⟨s1, L1, y1, d1⟩ := x1
  dsimp only at *
  have HX : Hid (∀ W, Below (w.heap.size + 1) (w.alloc (.cells #[.slice (some ⟨g, 0, none⟩) 2 c0, .slice (some ⟨k, 0, none⟩) 2 c1, .slice a2 E.length c2] 34)) W → (W.cell? ⟨w.heap.size, 0, none⟩ = some (.slice (some ⟨g, 0, none⟩) 2 c0) ∧ W.cell? ⟨w.heap.size, 1, none⟩ = some (.slice (some ⟨k, 0, none⟩) 2 c1) ∧ W.cell? ⟨w.heap.size, 2, none⟩ = some (.slice a2 E.length c2)) ∧ (W.cell? ⟨g, 0, none⟩ = some (.string s0) ∧ W.cell? ⟨g, 1, none⟩ = some (.slice y0 L0.length d0) ∧ W.cell? ⟨g, 2, none⟩ = some (.string s1) ∧ W.cell? ⟨g, 3, none⟩ = some (.slice y1 L1.length d1)) ∧ (W.cell? ⟨k, 0, none⟩ = some (.int .i64 b0) ∧ W.cell? ⟨k, 1, none⟩ = some (.int .i64 b1)) ∧ Below w.heap.size w W) := Lib.hid (fun W hb => by
    have b' : Below w.heap.size w W := ((Below.refl w.heap.size w).alloc (Nat.le_refl _) _).trans (hb.mono (by omega))
    have hn := (hb.block w.heap.size (by omega)).trans (heap_alloc_new w _)
    exact ⟨⟨(blk hn).1 0 _ rfl, (blk hn).1 1 _ rfl, (blk hn).1 2 _ rfl⟩, ⟨(b'.cell (p := ⟨g, 0, none⟩) hg).trans HI.1, (b'.cell (p := ⟨g, 1, none⟩) hg).trans HI.2.1, (b'.cell (p := ⟨g, 2, none⟩) hg).trans HI.2.2.1, (b'.cell (p := ⟨g, 3, none⟩) hg).trans HI.2.2.2⟩, ⟨(b'.cell (p := ⟨k, 0, none⟩) hk).trans HB1, (b'.cell (p := ⟨k, 1, none⟩) hk).trans HB2⟩, b'⟩)
  have HW0 := Lib.hid (fun W (hb : Below w.heap.size w W) => HII.out.below hb)
  have HW1 := Lib.hid (fun W (hb : Below w.heap.size w W) => HBB.out.below hb)
  have HW2 := Lib.hid (fun W (hb : Below w.heap.size w W) => HEE.out.below hb)
  obtain ⟨m0, hm0⟩ : ∃ b, imgB s0.data.toList L0 = b := ⟨_, rfl⟩
  obtain ⟨m1, hm1⟩ : ∃ b, imgB s1.data.toList L1 = b := ⟨_, rfl⟩
  rw [hm0] at SI0 K0
  rw [hm1] at SI1 K1
  obtain ⟨q0, hq0⟩ : ∃ b, (decide (1 ≤ b0) && decide (b0 ≤ 1000000)) = b := ⟨_, rfl⟩
  obtain ⟨q1, hq1⟩ : ∃ b, (decide (1 ≤ b1) && decide (b1 ≤ 1000000)) = b := ⟨_, rfl⟩
  rw [hq0] at IB0 K0
  rw [hq1] at IB1 K1
  have HQ0 := Lib.hid hq0
  have HQ1 := Lib.hid hq1
  clear HI HB1 HB2 hg hk HII HBB HEE hm0 hm1 hq0 hq1
  go_enter Tryz.func20, Tryz.ntmps20
  go_wp2_with fail
  refine (I1.out _).mono ?_
  rintro e w' ⟨rfl, rfl⟩
  clear I1
  go_wp2_with fail
  go_loopw [2, 3] (fun _ i wr => ∃ q : Nat, q ≤ 2 ∧ i = .int .i64 (q : Int) ∧ Hid (1 ≤ q → k0 = true) ∧ Hid (2 ≤ q → k1 = true) ∧ Hid (Below (w.heap.size + 1) (w.alloc (.cells #[.slice (some ⟨g, 0, none⟩) 2 c0, .slice (some ⟨k, 0, none⟩) 2 c1, .slice a2 E.length c2] 34)) wr)) (fun _ i _ => 2 - (RowKit.intOf i).toNat)
  case atStart => exact ⟨0, by omega, rfl, Lib.hid (fun h => by omega), Lib.hid (fun h => by omega), Lib.hid (Below.refl _ _)⟩
  case round =>
    obtain ⟨q, hq, rfl, N0, N1, HB⟩ := hrel
    obtain ⟨⟨e0, e1, e2⟩, ⟨i0, i1, i2, i3⟩, ⟨p0, p1⟩, HBW⟩ := HX.out _ HB.out
    have HBW := Lib.hid HBW
    have hz := HB.out.size
    have hzz : w.heap.size + 1 ≤ wr.heap.size := by simpa using hz
    clear hz
    match q, hq with
    | 0, _ =>
      have SIq := Lib.hid (SI0.out wr (HR0.out.below HBW.out))
      cases m0 with
      | false =>
        have HV : Hid (V = false) := Lib.hid (B0.out (by rw [K0.out]; rfl))
        go_wp2_with fail
        refine SIq.out.mono ?_
        rintro e w1 ⟨rfl, b1⟩
        have HBX : Hid (Below w.heap.size w w1) := Lib.hid (HBW.out.trans (b1.mono (by omega)))
        clear b1 SIq
        go_wp2
        go_ret
        exact ⟨ret_bs HV.out.symm, HBX.out⟩
      | true =>
        go_wp2_with fail
        refine SIq.out.mono ?_
        rintro e w1 ⟨rfl, b1⟩
        have HB1 : Hid (Below (w.heap.size + 1) (w.alloc (.cells #[.slice (some ⟨g, 0, none⟩) 2 c0, .slice (some ⟨k, 0, none⟩) 2 c1, .slice a2 E.length c2] 34)) w1) := Lib.hid (HB.out.trans (b1.mono (by omega)))
        clear e0 e1 e2 i0 i1 i2 i3 p0 p1 b1 SIq HBW
        obtain ⟨⟨e0, e1, e2⟩, ⟨i0, i1, i2, i3⟩, ⟨p0, p1⟩, HBW⟩ := HX.out _ HB1.out
        have HBW := Lib.hid HBW
        cases q0 with
        | false =>
          have HV : Hid (V = false) := Lib.hid (B0.out (by rw [K0.out]; rfl))
          go_wp2_with fail
          refine (IB0.out _).mono ?_
          rintro e w' ⟨rfl, rfl⟩
          go_wp2
          go_ret
          exact ⟨ret_bs HV.out.symm, HBW.out⟩
        | true =>
          have HK : Hid (k0 = true) := Lib.hid (by rw [K0.out]; rfl)
          go_wp2_with fail
          refine (IB0.out _).mono ?_
          rintro e w' ⟨rfl, rfl⟩
          go_wp2
          go_roundw
          case rel => exact ⟨1, by omega, by go_num, Lib.hid (fun _ => HK.out), Lib.hid (fun h => by omega), HB1⟩
          case measure => simp [RowKit.intOf]
    | 1, _ =>
      have SIq := Lib.hid (SI1.out wr (HR1.out.below HBW.out))
      cases m1 with
      | false =>
        have HV : Hid (V = false) := Lib.hid (B1.out (by rw [K1.out]; rfl))
        go_wp2_with fail
        refine SIq.out.mono ?_
        rintro e w1 ⟨rfl, b1⟩
        have HBX : Hid (Below w.heap.size w w1) := Lib.hid (HBW.out.trans (b1.mono (by omega)))
        clear b1 SIq
        go_wp2
        go_ret
        exact ⟨ret_bs HV.out.symm, HBX.out⟩
      | true =>
        go_wp2_with fail
        refine SIq.out.mono ?_
        rintro e w1 ⟨rfl, b1⟩
        have HB1 : Hid (Below (w.heap.size + 1) (w.alloc (.cells #[.slice (some ⟨g, 0, none⟩) 2 c0, .slice (some ⟨k, 0, none⟩) 2 c1, .slice a2 E.length c2] 34)) w1) := Lib.hid (HB.out.trans (b1.mono (by omega)))
        clear e0 e1 e2 i0 i1 i2 i3 p0 p1 b1 SIq HBW
        obtain ⟨⟨e0, e1, e2⟩, ⟨i0, i1, i2, i3⟩, ⟨p0, p1⟩, HBW⟩ := HX.out _ HB1.out
        have HBW := Lib.hid HBW
        cases q1 with
        | false =>
          have HV : Hid (V = false) := Lib.hid (B1.out (by rw [K1.out]; rfl))
          go_wp2_with fail
          refine (IB1.out _).mono ?_
          rintro e w' ⟨rfl, rfl⟩
          go_wp2
          go_ret
          exact ⟨ret_bs HV.out.symm, HBW.out⟩
        | true =>
          have HK : Hid (k1 = true) := Lib.hid (by rw [K1.out]; rfl)
          go_wp2_with fail
          refine (IB1.out _).mono ?_
          rintro e w' ⟨rfl, rfl⟩
          go_wp2
          go_roundw
          case rel => exact ⟨2, by omega, by go_num, Lib.hid (fun _ => N0.out (by omega)), Lib.hid (fun _ => HK.out), HB1⟩
          case measure => simp [RowKit.intOf]
    | 2, _ =>
      have HK0 := Lib.hid (N0.out (by omega))
      have HK1 := Lib.hid (N1.out (by omega))
      have hh0 : q0 = true := by have h := K0.out; rw [HK0.out] at h; cases m0 <;> simp at h; exact h
      have hh1 : q1 = true := by have h := K1.out; rw [HK1.out] at h; cases m1 <;> simp at h; exact h
      obtain ⟨l0, u0⟩ : 1 ≤ b0 ∧ b0 ≤ 1000000 := by have h := HQ0.out; rw [hh0] at h; simpa using h
      obtain ⟨l1, u1⟩ : 1 ≤ b1 ∧ b1 ≤ 1000000 := by have h := HQ1.out; rw [hh1] at h; simpa using h
      have LOC := Lib.hid (fun W e he h1 h2 => LO.out W e he h1 h2 l0 u0 l1 u1)
      have u : IntKind.i64.wrap (b0 + (s0.size : Int)) = b0 + (s0.size : Int) := IntWalk.i64_in _ (by omega)
      have v : IntKind.i64.wrap (b1 + (s1.size : Int)) = b1 + (s1.size : Int) := IntWalk.i64_in _ (by omega)
      clear N0 N1 hh0 hh1 IB0 IB1 SI0 SI1 K0 K1 B0 B1 LO HQ0 HQ1
      go_upto_region 10 with fail
      go_cut [90] (fun s wx => s = .bool ov ∧ Hid (Below (w.heap.size + 1) (w.alloc (.cells #[.slice (some ⟨g, 0, none⟩) 2 c0, .slice (some ⟨k, 0, none⟩) 2 c1, .slice a2 E.length c2] 34)) wx))
      case first =>
        by_cases t1 : 0 < (s0.size : Int)
        · by_cases t2 : 0 < (s1.size : Int)
          · have f1 : decide (0 < (s0.size : Int)) = true := decide_eq_true t1
            have f1' : 0 < s0.size := by omega
            have f1'' : decide (0 < s0.size) = true := decide_eq_true f1'
            have f2 : decide (0 < (s1.size : Int)) = true := decide_eq_true t2
            have f2' : 0 < s1.size := by omega
            have f2'' : decide (0 < s1.size) = true := decide_eq_true f2'
            by_cases t3 : b0 < b1 + (s1.size : Int)
            · have f3 : decide (b0 < b1 + (s1.size : Int)) = true := decide_eq_true t3
              by_cases t4 : b1 < b0 + (s0.size : Int)
              · have HO : Hid (ov = true) := Lib.hid (by rw [OV.out, f1, f2, f3, decide_eq_true t4]; rfl)
                go_quiet (fail)
                go_wp2_with fail
                go_meet
                exact ⟨by rw [HO.out], Lib.hid (drewN_b HB.out _)⟩
              · have f4 : decide (b1 < b0 + (s0.size : Int)) = false := decide_eq_false t4
                have HO : Hid (ov = false) := Lib.hid (by rw [OV.out, f4]; simp)
                go_quiet (fail)
                go_wp2_with fail
                go_meet
                exact ⟨by rw [HO.out], Lib.hid (drewN_b HB.out _)⟩
            · have f3 : decide (b0 < b1 + (s1.size : Int)) = false := decide_eq_false t3
              have HO : Hid (ov = false) := Lib.hid (by rw [OV.out, f3]; simp)
              go_quiet (fail)
              go_wp2_with fail
              go_meet
              exact ⟨by rw [HO.out], Lib.hid (drewN_b HB.out _)⟩
          · have f1 : decide (0 < (s0.size : Int)) = true := decide_eq_true t1
            have f1' : 0 < s0.size := by omega
            have f1'' : decide (0 < s0.size) = true := decide_eq_true f1'
            have f2 : decide (0 < (s1.size : Int)) = false := decide_eq_false t2
            have f2' : ¬ 0 < s1.size := by omega
            have f2'' : decide (0 < s1.size) = false := decide_eq_false f2'
            have HO : Hid (ov = false) := Lib.hid (by rw [OV.out, f2]; simp)
            go_quiet (fail)
            go_wp2_with fail
            go_meet
            exact ⟨by rw [HO.out], Lib.hid (drewN_b HB.out _)⟩
        · have f1 : decide (0 < (s0.size : Int)) = false := decide_eq_false t1
          have f1' : ¬ 0 < s0.size := by omega
          have f1'' : decide (0 < s0.size) = false := decide_eq_false f1'
          have HO : Hid (ov = false) := Lib.hid (by rw [OV.out, f1]; rfl)
          go_quiet (fail)
          go_wp2_with fail
          go_meet
          exact ⟨by rw [HO.out], Lib.hid (drewN_b HB.out _)⟩
      case rest =>
        rename World => wb
        obtain ⟨rfl, HBc⟩ := hcut
        clear e0 e1 e2 i0 i1 i2 i3 p0 p1 HBW HB u v OV
        obtain ⟨⟨e0, e1, e2⟩, ⟨i0, i1, i2, i3⟩, ⟨p0, p1⟩, HBW⟩ := HX.out _ HBc.out
        have HBW := Lib.hid HBW
        cases ov with
        | true =>
          have HV : Hid (V = false) := Lib.hid (BO.out rfl)
          go_wp2
          go_ret
          exact ⟨ret_bs HV.out.symm, HBW.out⟩
        | false =>
        clear BO
        go_wp2_with fail
        clear e0 e1 e2 i0 i1 i2 i3 p0 p1 HBW
        go_loopw [2, 6, 7, 8, 9] (fun _ i _ _ _ wr => ∃ q : Nat, q ≤ E.length ∧ i = .int .i64 (q : Int) ∧ Hid (∀ e ∈ E.take q, en e = true) ∧ Hid (Below (w.heap.size + 1) (w.alloc (.cells #[.slice (some ⟨g, 0, none⟩) 2 c0, .slice (some ⟨k, 0, none⟩) 2 c1, .slice a2 E.length c2] 34)) wr)) (fun _ i _ _ _ _ => E.length - (RowKit.intOf i).toNat)
        case atStart => exact ⟨0, by omega, rfl, Lib.hid (fun e h => by simp at h), HBc⟩
        case round =>
          obtain ⟨q, hq, rfl, HAL, HBr⟩ := hrel
          obtain ⟨⟨e0, e1, e2⟩, ⟨i0, i1, i2, i3⟩, ⟨p0, p1⟩, HBW⟩ := HX.out _ HBr.out
          have HBW := Lib.hid HBW
          have hz := HBr.out.size
          have hzz : w.heap.size + 1 ≤ wr.heap.size := by simpa using hz
          clear hz
          by_cases hlt : q < E.length
          · obtain ⟨ge, rfl, hge, cE⟩ := (HW2.out _ HBW.out) q hlt
            have HNX : Hid (en E[q] = true → ∀ e ∈ E.take (q + 1), en e = true) := Lib.hid (fun h e he => by
              rw [List.take_succ_eq_append_getElem hlt] at he
              rcases List.mem_append.1 he with he | he
              · exact HAL.out e he
              · rw [List.mem_singleton] at he; rw [he]; exact h)
            have HBAD := Lib.hid (BE.out q hlt)
            have hele := HLE.out _ (List.getElem_mem hlt)
            have LC := Lib.hid (fun W (hb : Below w.heap.size w W) => LOC.out W E[q] hele (HW0.out W hb) (HW1.out W hb))
            have EN' := Lib.hid (EN.out E[q])
            have EI' := Lib.hid (EI.out E[q])
            have CS := SC.out E[q]
            generalize E[q] = ee at *
            obtain ⟨pp, hpp⟩ : ∃ x, sp ee = x := ⟨_, rfl⟩
            obtain ⟨pi, po⟩ := pp
            have HPP := Lib.hid hpp
            have LC2 : Hid (∀ W, Below w.heap.size w W → Calls Tryz.prog 38 #[.agg #[.slice (some ⟨g, 0, none⟩) 2 c0, .slice (some ⟨k, 0, none⟩) 2 c1, .slice (some ⟨ge, 0, none⟩) E.length c2], .int .i64 ee] W fun e w' => e = .returned (.tuple #[.int .i64 pi, .int .i64 po]) ∧ Below W.heap.size W w') := Lib.hid (fun W hb => by have h := LC.out W hb; rw [hpp] at h; exact h)
            rw [hpp] at CS
            clear hpp LC
            have kq0 : (0 : Int) ≤ (q : Int) := by omega
            have kq1 : (q : Int) < (E.length : Int) := by omega
            have KP : Hid (∀ W, Below wr.heap.size wr W → (W.cell? ⟨w.heap.size, 0, none⟩ = some (.slice (some ⟨g, 0, none⟩) 2 c0) ∧ W.cell? ⟨w.heap.size, 1, none⟩ = some (.slice (some ⟨k, 0, none⟩) 2 c1) ∧ W.cell? ⟨w.heap.size, 2, none⟩ = some (.slice (some ⟨ge, 0, none⟩) E.length c2)) ∧ W.cell? ⟨ge, q, none⟩ = some (.int .i64 ee)) := Lib.hid (fun W hb => ⟨(HX.out W (HBr.out.trans (hb.mono (by omega)))).1, (hb.cell (p := ⟨ge, q, none⟩) hge).trans cE⟩)
            go_wp2_with fail
            go_region_held3 (fun W => (W.cell? ⟨w.heap.size, 0, none⟩ = some (.slice (some ⟨g, 0, none⟩) 2 c0) ∧ W.cell? ⟨w.heap.size, 1, none⟩ = some (.slice (some ⟨k, 0, none⟩) 2 c1) ∧ W.cell? ⟨w.heap.size, 2, none⟩ = some (.slice (some ⟨ge, 0, none⟩) E.length c2)) ∧ W.cell? ⟨ge, q, none⟩ = some (.int .i64 ee)) (first | exact KP.out _ (Below.refl wr.heap.size wr).drew | exact KP.out _ (undrew b5))
              (first
                | (go_at_call 38; (with_reducible refine (LC2.out _ ?_).mono ?_); exact HBW.out.drew; rintro e w5 ⟨rfl, b5⟩))
            all_goals
              have HB5 : Hid (Below (w.heap.size + 1) (w.alloc (.cells #[.slice (some ⟨g, 0, none⟩) 2 c0, .slice (some ⟨k, 0, none⟩) 2 c1, .slice (some ⟨ge, 0, none⟩) E.length c2] 34)) w5) := Lib.hid (HBr.out.trans ((undrew b5).mono (by omega)))
              clear b5 e0 e1 e2 i0 i1 i2 i3 p0 p1 HBW cE LC2 hele KP
              obtain ⟨⟨e0, e1, e2⟩, ⟨i0, i1, i2, i3⟩, ⟨p0, p1⟩, HBW⟩ := HX.out _ HB5.out
              have HBW := Lib.hid HBW
              have hz5 : w.heap.size + 1 ≤ w5.heap.size := by have := HB5.out.size; simpa using this
              rcases CS with ⟨h0, h1, h2⟩ | ⟨h0, h1, h2, h3⟩ | ⟨h0, h1, h2⟩
              · obtain ⟨hpi, hpo⟩ := Prod.mk.inj h0
                subst hpi
                have EI2 := Lib.hid (EI'.out 0 po HPP.out (by omega))
                have hoo0 : 0 ≤ po := by omega
                clear h0 h1 h2 hpo EN' EI' HPP
                have SYq := Lib.hid (SY0.out w5 po (HR0.out.below HBW.out))
                rw [(HS0.out 0).1] at EI2
                rcases symZ_lt L0 po with hy | ⟨ky, hky, hy⟩
                · have HV : Hid (V = false) := Lib.hid (HBAD.out (by rw [EI2.out, begZ_no (by omega), decide_eq_false (by omega)]))
                  rw [hy] at SYq
                  clear hy
                  go_wp2_with fail
                  refine SYq.out.mono ?_
                  rintro e w6 ⟨rfl, b6⟩
                  have HB6 : Hid (Below w.heap.size w w6) := Lib.hid (HBW.out.trans (b6.mono (by omega)))
                  clear b6
                  go_wp2
                  go_ret
                  exact ⟨ret_bs HV.out.symm, HB6.out⟩
                · rw [begZ_at hky hy] at EI2
                  rw [hy] at SYq
                  clear hy
                  go_wp2_with fail
                  refine SYq.out.mono ?_
                  rintro e w6 ⟨rfl, b6⟩
                  have HB6 : Hid (Below (w.heap.size + 1) (w.alloc (.cells #[.slice (some ⟨g, 0, none⟩) 2 c0, .slice (some ⟨k, 0, none⟩) 2 c1, .slice (some ⟨ge, 0, none⟩) E.length c2] 34)) w6) := Lib.hid (HB5.out.trans (b6.mono (by omega)))
                  clear b6 e0 e1 e2 i0 i1 i2 i3 p0 p1 HBW SYq
                  obtain ⟨⟨e0, e1, e2⟩, ⟨i0, i1, i2, i3⟩, ⟨p0, p1⟩, HBW⟩ := HX.out _ HB6.out
                  have HBW := Lib.hid HBW
                  obtain ⟨gs, rfl, hgs, _, cst, _⟩ := (HR0.out.below HBW.out) ky hky
                  have ky0 : (0 : Int) ≤ (ky : Int) := by omega
                  have ky1 : (ky : Int) < (L0.length : Int) := by omega
                  generalize (L0[ky]).start = st at *
                  by_cases hst : st = po
                  · have HN2 := Lib.hid (HNX.out (by rw [EI2.out, decide_eq_true hst]))
                    have hne : (st != po) = false := by simp [hst]
                    clear EI2 HBAD
                    go_wp2
                    go_roundw
                    case rel => exact ⟨q + 1, by omega, by go_num, HN2, HB6⟩
                    case measure => simp [RowKit.intOf]; omega
                  · have HV : Hid (V = false) := Lib.hid (HBAD.out (by rw [EI2.out, decide_eq_false hst]))
                    have hne : (st != po) = true := bne_iff_ne.2 hst
                    clear EI2 HBAD
                    go_wp2
                    go_ret
                    exact ⟨ret_bs HV.out.symm, HBW.out⟩
              · obtain ⟨hpi, hpo⟩ := Prod.mk.inj h0
                subst hpi
                have EI2 := Lib.hid (EI'.out 1 po HPP.out (by omega))
                have hoo0 : 0 ≤ po := by omega
                clear h0 h1 h2 hpo h3 EN' EI' HPP
                have SYq := Lib.hid (SY1.out w5 po (HR1.out.below HBW.out))
                rw [(HS0.out 0).2.1] at EI2
                rcases symZ_lt L1 po with hy | ⟨ky, hky, hy⟩
                · have HV : Hid (V = false) := Lib.hid (HBAD.out (by rw [EI2.out, begZ_no (by omega), decide_eq_false (by omega)]))
                  rw [hy] at SYq
                  clear hy
                  go_wp2_with fail
                  refine SYq.out.mono ?_
                  rintro e w6 ⟨rfl, b6⟩
                  have HB6 : Hid (Below w.heap.size w w6) := Lib.hid (HBW.out.trans (b6.mono (by omega)))
                  clear b6
                  go_wp2
                  go_ret
                  exact ⟨ret_bs HV.out.symm, HB6.out⟩
                · rw [begZ_at hky hy] at EI2
                  rw [hy] at SYq
                  clear hy
                  go_wp2_with fail
                  refine SYq.out.mono ?_
                  rintro e w6 ⟨rfl, b6⟩
                  have HB6 : Hid (Below (w.heap.size + 1) (w.alloc (.cells #[.slice (some ⟨g, 0, none⟩) 2 c0, .slice (some ⟨k, 0, none⟩) 2 c1, .slice (some ⟨ge, 0, none⟩) E.length c2] 34)) w6) := Lib.hid (HB5.out.trans (b6.mono (by omega)))
                  clear b6 e0 e1 e2 i0 i1 i2 i3 p0 p1 HBW SYq
                  obtain ⟨⟨e0, e1, e2⟩, ⟨i0, i1, i2, i3⟩, ⟨p0, p1⟩, HBW⟩ := HX.out _ HB6.out
                  have HBW := Lib.hid HBW
                  obtain ⟨gs, rfl, hgs, _, cst, _⟩ := (HR1.out.below HBW.out) ky hky
                  have ky0 : (0 : Int) ≤ (ky : Int) := by omega
                  have ky1 : (ky : Int) < (L1.length : Int) := by omega
                  generalize (L1[ky]).start = st at *
                  by_cases hst : st = po
                  · have HN2 := Lib.hid (HNX.out (by rw [EI2.out, decide_eq_true hst]))
                    have hne : (st != po) = false := by simp [hst]
                    clear EI2 HBAD
                    go_wp2
                    go_roundw
                    case rel => exact ⟨q + 1, by omega, by go_num, HN2, HB6⟩
                    case measure => simp [RowKit.intOf]; omega
                  · have HV : Hid (V = false) := Lib.hid (HBAD.out (by rw [EI2.out, decide_eq_false hst]))
                    have hne : (st != po) = true := bne_iff_ne.2 hst
                    clear EI2 HBAD
                    go_wp2
                    go_ret
                    exact ⟨ret_bs HV.out.symm, HBW.out⟩
              · have HV : Hid (V = false) := Lib.hid (HBAD.out (EN'.out (HPP.out.trans h0)))
                obtain ⟨hpi, hpo⟩ := Prod.mk.inj h0
                subst hpi hpo
                clear h0 HPP h1 h2 EN' EI' HBAD HNX
                go_wp2
                go_ret
                exact ⟨ret_bs HV.out.symm, HBW.out⟩
          · have HV : Hid (V = true) := Lib.hid (BY.out HK0.out HK1.out (by first | trivial | rfl) (by rw [List.all_eq_true]; intro e he; have h := HAL.out; rw [List.take_of_length_le (by omega)] at h; exact h e he))
            have kq1 : ¬ (q : Int) < (E.length : Int) := by omega
            go_wp2
            go_ret
            exact ⟨ret_bs HV.out.symm, HBW.out⟩

set_option maxRecDepth 100000 in
set_option maxHeartbeats 2000000 in
theorem s_space_len (n m k : Nat) (a0 a1 a2 : Option Addr) (c0 c1 c2 : Nat) (w : World) (hn : n ≤ 1048576) (hm : m ≤ 1048576) (hk : k ≤ 1048576) (h : lenB n m k = false) :
    Calls Tryz.prog 20 #[.agg #[.slice a0 n c0, .slice a1 m c1, .slice a2 k c2]] w fun e w' => e = .returned (.bool false) ∧ Below w.heap.size w w' := by
  have HBX : Hid (Below w.heap.size w (w.alloc (.cells #[.slice a0 n c0, .slice a1 m c1, .slice a2 k c2] 34))) := Lib.hid ((Below.refl _ _).alloc (Nat.le_refl _) _)
  by_cases h1 : n = 2
  · subst h1
    by_cases h2 : m = 2
    · subst h2
      have I1 := Lib.hid (fun W => s_in9 (k : Int) 1 6 W)
      have hd : (decide ((1 : Int) ≤ (k : Int)) && decide ((k : Int) ≤ 6)) = false := by
        unfold lenB at h
        have e1 : decide ((1 : Int) ≤ (k : Int)) = decide (1 ≤ k) := decide_eq_decide.2 (by omega)
        have e2 : decide ((k : Int) ≤ 6) = decide (k ≤ 6) := decide_eq_decide.2 (by omega)
        rw [e1, e2]
        simpa using h
      rw [hd] at I1
      clear h hd
      go_enter Tryz.func20, Tryz.ntmps20
      go_wp2_with fail
      refine (I1.out _).mono ?_
      rintro e w' ⟨rfl, rfl⟩
      go_wp2
      go_ret
      exact ⟨rfl, HBX.out⟩
    · have hne : ((m : Int) != 2) = true := bne_iff_ne.2 (by omega)
      clear h
      go_enter Tryz.func20, Tryz.ntmps20
      go_wp2
      all_goals go_ret
      all_goals exact ⟨rfl, HBX.out⟩
  · have hne : ((n : Int) != 2) = true := bne_iff_ne.2 (by omega)
    clear h
    go_enter Tryz.func20, Tryz.ntmps20
    go_wp2
    all_goals go_ret
    all_goals exact ⟨rfl, HBX.out⟩
/-- The bounds of a whole space. -/
def SmlI (I : List ImA) (B E : List Int) : Prop := I.length ≤ 1048576 ∧ B.length ≤ 1048576 ∧ E.length ≤ 1048576 ∧ (∀ x ∈ I, SmallI x) ∧ ∀ e ∈ E, e ≤ 9223372036854775807
theorem s_spaceOk (I : List ImA) (B E : List Int) (a0 a1 a2 : Option Addr) (c0 c1 c2 : Nat) (w : World) (hI : ReadIms w a0 I) (hB : ReadI w a1 B) (hE : ReadI w a2 E) (hs : SmlI I B E) :
    Calls Tryz.prog 20 #[.agg #[.slice a0 I.length c0, .slice a1 B.length c1, .slice a2 E.length c2]] w fun e w' => e = .returned (.bool (spB I B E)) ∧ Below w.heap.size w w' := by
  cases hl : lenB I.length B.length E.length with
  | false => rw [spB_len hl]; exact s_space_len _ _ _ a0 a1 a2 c0 c1 c2 w hs.1 hs.2.1 hs.2.2.1 hl
  | true =>
    obtain ⟨h1, h2, h3, h4⟩ := lenB_is hl
    obtain ⟨x0, x1, rfl⟩ := list2 h1
    obtain ⟨b0, b1, rfl⟩ := list2 h2
    rw [spB_two h3 h4]
    exact s_space2 x0 x1 b0 b1 E a0 a1 a2 c0 c1 c2 w hI hB hE h3 h4 ⟨hs.2.2.2.1 _ (by simp), hs.2.2.2.1 _ (by simp), hs.2.2.1, hs.2.2.2.2⟩
end Go.Proofs.YtakgjlpgcepnkaaGreat

/-! Address spaces, the program's: where a byte is, where its symbol begins, whether images overlap -/
namespace Go.Proofs.YtakgjlpgcepnkaaGreat
open Go.RowKit Go.Lib

set_option maxRecDepth 100000 in
set_option maxHeartbeats 2000000 in
theorem i_end0 (x0 x1 : ImA) (b0 b1 : Int) (a0 a1 a2 : Option Addr) (c0 c1 c2 n2 : Nat) (w : World) (hI : ReadIms w a0 [x0, x1]) (hB : ReadI w a1 [b0, b1]) (l : 1 ≤ b0) (u : b0 ≤ 1000000) (z : x0.s.size ≤ 1048576) :
    Calls Tryz.prog 71 #[.agg #[.slice a0 2 c0, .slice a1 2 c1, .slice a2 n2 c2], .int .i64 0] w fun e w' => e = .returned (.int .i64 (b0 + (x0.s.size : Int))) ∧ Below w.heap.size w w' := by
  obtain ⟨g, rfl, hg, HI, _⟩ := readIms2 hI
  obtain ⟨k, rfl, hk, HB1, HB2⟩ := readI2 hB
  have HBX : Hid (Below w.heap.size w (w.alloc (.cells #[.slice (some ⟨g, 0, none⟩) 2 c0, .slice (some ⟨k, 0, none⟩) 2 c1, .slice a2 n2 c2] 34))) := Lib.hid ((Below.refl _ _).alloc (Nat.le_refl _) _)
  have i0 := (HBX.out.cell (p := ⟨g, 0, none⟩) hg).trans HI.1
  have p0 := (HBX.out.cell (p := ⟨k, 0, none⟩) hk).trans HB1
  have hw : IntKind.i64.wrap (b0 + (x0.s.size : Int)) = b0 + (x0.s.size : Int) := IntWalk.i64_in _ (by omega)
  generalize x0.s = s at *
  clear hI hB HI HB1 HB2
  go_enter Tryz.func71, Tryz.ntmps71
  go_wp2_with fail
  go_quiet (fail)
  go_wp2
  go_ret
  exact ⟨rfl, drewN_b HBX.out _⟩
set_option maxRecDepth 100000 in
set_option maxHeartbeats 2000000 in
theorem i_end1 (x0 x1 : ImA) (b0 b1 : Int) (a0 a1 a2 : Option Addr) (c0 c1 c2 n2 : Nat) (w : World) (hI : ReadIms w a0 [x0, x1]) (hB : ReadI w a1 [b0, b1]) (l : 1 ≤ b1) (u : b1 ≤ 1000000) (z : x1.s.size ≤ 1048576) :
    Calls Tryz.prog 71 #[.agg #[.slice a0 2 c0, .slice a1 2 c1, .slice a2 n2 c2], .int .i64 1] w fun e w' => e = .returned (.int .i64 (b1 + (x1.s.size : Int))) ∧ Below w.heap.size w w' := by
  obtain ⟨g, rfl, hg, HI, _⟩ := readIms2 hI
  obtain ⟨k, rfl, hk, HB1, HB2⟩ := readI2 hB
  have HBX : Hid (Below w.heap.size w (w.alloc (.cells #[.slice (some ⟨g, 0, none⟩) 2 c0, .slice (some ⟨k, 0, none⟩) 2 c1, .slice a2 n2 c2] 34))) := Lib.hid ((Below.refl _ _).alloc (Nat.le_refl _) _)
  have i0 := (HBX.out.cell (p := ⟨g, 2, none⟩) hg).trans HI.2.2.1
  have p0 := (HBX.out.cell (p := ⟨k, 1, none⟩) hk).trans HB2
  have hw : IntKind.i64.wrap (b1 + (x1.s.size : Int)) = b1 + (x1.s.size : Int) := IntWalk.i64_in _ (by omega)
  generalize x1.s = s at *
  clear hI hB HI HB1 HB2
  go_enter Tryz.func71, Tryz.ntmps71
  go_wp2_with fail
  go_quiet (fail)
  go_wp2
  go_ret
  exact ⟨rfl, drewN_b HBX.out _⟩

set_option maxRecDepth 100000 in
set_option maxHeartbeats 4000000 in
theorem i_ovl (x0 x1 : ImA) (b0 b1 : Int) (a0 a1 a2 : Option Addr) (c0 c1 c2 n2 : Nat) (w : World) (hI : ReadIms w a0 [x0, x1]) (hB : ReadI w a1 [b0, b1]) (l0 : 1 ≤ b0) (u0 : b0 ≤ 1000000) (l1 : 1 ≤ b1) (u1 : b1 ≤ 1000000) (z0 : x0.s.size ≤ 1048576) (z1 : x1.s.size ≤ 1048576) :
    Calls Tryz.prog 46 #[.agg #[.slice a0 2 c0, .slice a1 2 c1, .slice a2 n2 c2]] w fun e w' => e = .returned (.bool (ovB x0 x1 b0 b1)) ∧ Below w.heap.size w w' := by
  have E0 := Lib.hid (fun W (hb : Below w.heap.size w W) => i_end0 x0 x1 b0 b1 a0 a1 a2 c0 c1 c2 n2 W (hI.below hb) (hB.below hb) l0 u0 z0)
  have E1 := Lib.hid (fun W (hb : Below w.heap.size w W) => i_end1 x0 x1 b0 b1 a0 a1 a2 c0 c1 c2 n2 W (hI.below hb) (hB.below hb) l1 u1 z1)
  have HV : Hid (ovB x0 x1 b0 b1 = decide (max b0 b1 < min (b0 + (x0.s.size : Int)) (b1 + (x1.s.size : Int)))) := Lib.hid (by
    unfold ovB
    rw [← Bool.decide_and, ← Bool.decide_and, ← Bool.decide_and]
    exact decide_eq_decide.2 (by omega))
  obtain ⟨g, rfl, hg, HI, _⟩ := readIms2 hI
  obtain ⟨k, rfl, hk, HB1, HB2⟩ := readI2 hB
  have HX : Hid (∀ W, Below (w.heap.size + 1) (w.alloc (.cells #[.slice (some ⟨g, 0, none⟩) 2 c0, .slice (some ⟨k, 0, none⟩) 2 c1, .slice a2 n2 c2] 34)) W → (W.cell? ⟨w.heap.size, 0, none⟩ = some (.slice (some ⟨g, 0, none⟩) 2 c0) ∧ W.cell? ⟨w.heap.size, 1, none⟩ = some (.slice (some ⟨k, 0, none⟩) 2 c1) ∧ W.cell? ⟨w.heap.size, 2, none⟩ = some (.slice a2 n2 c2)) ∧ (W.cell? ⟨k, 0, none⟩ = some (.int .i64 b0) ∧ W.cell? ⟨k, 1, none⟩ = some (.int .i64 b1))) := Lib.hid (fun W hb => by
    have b' : Below w.heap.size w W := ((Below.refl w.heap.size w).alloc (Nat.le_refl _) _).trans (hb.mono (by omega))
    have hn := (hb.block w.heap.size (by omega)).trans (heap_alloc_new w _)
    exact ⟨⟨(blk hn).1 0 _ rfl, (blk hn).1 1 _ rfl, (blk hn).1 2 _ rfl⟩, ⟨(b'.cell (p := ⟨k, 0, none⟩) hk).trans HB1, (b'.cell (p := ⟨k, 1, none⟩) hk).trans HB2⟩⟩)
  generalize x0.s = s0 at *
  generalize x1.s = s1 at *
  obtain ⟨W0, hW0⟩ : ∃ W, w.alloc (.cells #[.slice (some ⟨g, 0, none⟩) 2 c0, .slice (some ⟨k, 0, none⟩) 2 c1, .slice a2 n2 c2] 34) = W := ⟨_, rfl⟩
  have hz : W0.heap.size = w.heap.size + 1 := by rw [← hW0]; simp
  have HBX : Hid (Below w.heap.size w W0) := Lib.hid (hW0 ▸ (Below.refl _ _).alloc (Nat.le_refl _) _)
  have KP : Hid (∀ W, Below W0.heap.size W0 W → (W.cell? ⟨w.heap.size, 0, none⟩ = some (.slice (some ⟨g, 0, none⟩) 2 c0) ∧ W.cell? ⟨w.heap.size, 1, none⟩ = some (.slice (some ⟨k, 0, none⟩) 2 c1) ∧ W.cell? ⟨w.heap.size, 2, none⟩ = some (.slice a2 n2 c2)) ∧ (W.cell? ⟨k, 0, none⟩ = some (.int .i64 b0) ∧ W.cell? ⟨k, 1, none⟩ = some (.int .i64 b1))) := Lib.hid (fun W hb => HX.out W (by rw [hz, ← hW0] at hb; exact hb))
  have ZA : Hid (w.heap.size ≤ W0.heap.size) := Lib.hid (by omega)
  have HW0 := Lib.hid hW0
  obtain ⟨⟨e0, e1, e2⟩, p0, p1⟩ := KP.out W0 (Below.refl _ _)
  clear hI hB HI HB1 HB2 hg hk HX hW0 hz
  go_enter Tryz.func46, Tryz.ntmps46
  go_upto_region 1 with fail
  rw [HW0.out]
  clear HW0
  go_region_held3 (fun W => (W.cell? ⟨w.heap.size, 0, none⟩ = some (.slice (some ⟨g, 0, none⟩) 2 c0) ∧ W.cell? ⟨w.heap.size, 1, none⟩ = some (.slice (some ⟨k, 0, none⟩) 2 c1) ∧ W.cell? ⟨w.heap.size, 2, none⟩ = some (.slice a2 n2 c2)) ∧ (W.cell? ⟨k, 0, none⟩ = some (.int .i64 b0) ∧ W.cell? ⟨k, 1, none⟩ = some (.int .i64 b1)))
    (first | exact KP.out _ (Below.refl W0.heap.size W0).drew | exact KP.out _ h5 | exact KP.out _ h6)
    (first
    | (go_at_call 71; (with_reducible refine (E0.out _ ?_).mono ?_); (first | exact HBX.out.drew | exact HBX.out | exact HBX.out.trans (h6.mono ZA.out)); rintro e w5 ⟨rfl, b5⟩; have h5 : Below W0.heap.size W0 w5 := (by first | exact undrew b5 | exact b5 | exact h6.trans (b5.mono h6.size)))
    | (go_at_call 71; (with_reducible refine (E1.out _ ?_).mono ?_); (first | exact HBX.out.drew | exact HBX.out | exact HBX.out.trans (h5.mono ZA.out)); rintro e w6 ⟨rfl, b6⟩; have h6 : Below W0.heap.size W0 w6 := (by first | exact undrew b6 | exact b6 | exact h5.trans (b6.mono h5.size))))
  all_goals
    have HBF := Lib.hid (HBX.out.trans (Below.mono (by first | exact h6.trans (b5.mono h6.size) | exact h5.trans (b6.mono h5.size)) ZA.out))
    clear h5 h6 b5 b6 e0 e1 e2 p0 p1
    go_wp2
    go_ret
    exact ⟨by rw [HV.out]; rfl, by first | exact HBF.out | exact HBX.out.trans (h6.mono ZA.out)⟩
end Go.Proofs.YtakgjlpgcepnkaaGreat
