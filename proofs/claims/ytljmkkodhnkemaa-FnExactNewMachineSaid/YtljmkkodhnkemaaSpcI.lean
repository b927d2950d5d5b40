/- Address spaces, the program's: where a byte is, where its symbol begins, whether images overlap. -/
import Derived.Test.YtljmkkodhnkemaaSpcS
import Derived.Lib.MinMax
import Derived.Deep.RegionWith
namespace Go.Proofs.Ytljmkkodhnkemaa
open Go.RowKit Go.Lib

set_option maxRecDepth 100000 in
set_option maxHeartbeats 2000000 in
theorem i_end0 (x0 x1 : ImA) (b0 b1 : Int) (a0 a1 a2 : Option Addr) (c0 c1 c2 n2 : Nat) (w : World) (hI : ReadIms w a0 [x0, x1]) (hB : ReadI w a1 [b0, b1]) (l : 1 ≤ b0) (u : b0 ≤ 1000000) (z : x0.s.size ≤ 1048576) :
    Calls Try.prog 50 #[.agg #[.slice a0 2 c0, .slice a1 2 c1, .slice a2 n2 c2], .int .i64 0] w fun e w' => e = .returned (.int .i64 (b0 + (x0.s.size : Int))) ∧ Below w.heap.size w w' := by
  obtain ⟨g, rfl, hg, HI, _⟩ := readIms2 hI
  obtain ⟨k, rfl, hk, HB1, HB2⟩ := readI2 hB
  have HBX : Hid (Below w.heap.size w (w.alloc (.cells #[.slice (some ⟨g, 0, none⟩) 2 c0, .slice (some ⟨k, 0, none⟩) 2 c1, .slice a2 n2 c2] 39))) := Lib.hid ((Below.refl _ _).alloc (Nat.le_refl _) _)
  have i0 := (HBX.out.cell (p := ⟨g, 0, none⟩) hg).trans HI.1
  have p0 := (HBX.out.cell (p := ⟨k, 0, none⟩) hk).trans HB1
  have hw : IntKind.i64.wrap (b0 + (x0.s.size : Int)) = b0 + (x0.s.size : Int) := IntWalk.i64_in _ (by omega)
  generalize x0.s = s at *
  clear hI hB HI HB1 HB2
  go_enter Try.func50, Try.ntmps50
  go_wp2_with fail
  go_quiet (fail)
  go_wp2
  go_ret
  exact ⟨rfl, drewN_b HBX.out _⟩
set_option maxRecDepth 100000 in
set_option maxHeartbeats 2000000 in
theorem i_end1 (x0 x1 : ImA) (b0 b1 : Int) (a0 a1 a2 : Option Addr) (c0 c1 c2 n2 : Nat) (w : World) (hI : ReadIms w a0 [x0, x1]) (hB : ReadI w a1 [b0, b1]) (l : 1 ≤ b1) (u : b1 ≤ 1000000) (z : x1.s.size ≤ 1048576) :
    Calls Try.prog 50 #[.agg #[.slice a0 2 c0, .slice a1 2 c1, .slice a2 n2 c2], .int .i64 1] w fun e w' => e = .returned (.int .i64 (b1 + (x1.s.size : Int))) ∧ Below w.heap.size w w' := by
  obtain ⟨g, rfl, hg, HI, _⟩ := readIms2 hI
  obtain ⟨k, rfl, hk, HB1, HB2⟩ := readI2 hB
  have HBX : Hid (Below w.heap.size w (w.alloc (.cells #[.slice (some ⟨g, 0, none⟩) 2 c0, .slice (some ⟨k, 0, none⟩) 2 c1, .slice a2 n2 c2] 39))) := Lib.hid ((Below.refl _ _).alloc (Nat.le_refl _) _)
  have i0 := (HBX.out.cell (p := ⟨g, 2, none⟩) hg).trans HI.2.2.1
  have p0 := (HBX.out.cell (p := ⟨k, 1, none⟩) hk).trans HB2
  have hw : IntKind.i64.wrap (b1 + (x1.s.size : Int)) = b1 + (x1.s.size : Int) := IntWalk.i64_in _ (by omega)
  generalize x1.s = s at *
  clear hI hB HI HB1 HB2
  go_enter Try.func50, Try.ntmps50
  go_wp2_with fail
  go_quiet (fail)
  go_wp2
  go_ret
  exact ⟨rfl, drewN_b HBX.out _⟩

set_option maxRecDepth 100000 in
set_option maxHeartbeats 4000000 in
theorem i_ovl (x0 x1 : ImA) (b0 b1 : Int) (a0 a1 a2 : Option Addr) (c0 c1 c2 n2 : Nat) (w : World) (hI : ReadIms w a0 [x0, x1]) (hB : ReadI w a1 [b0, b1]) (l0 : 1 ≤ b0) (u0 : b0 ≤ 1000000) (l1 : 1 ≤ b1) (u1 : b1 ≤ 1000000) (z0 : x0.s.size ≤ 1048576) (z1 : x1.s.size ≤ 1048576) :
    Calls Try.prog 36 #[.agg #[.slice a0 2 c0, .slice a1 2 c1, .slice a2 n2 c2]] w fun e w' => e = .returned (.bool (ovB x0 x1 b0 b1)) ∧ Below w.heap.size w w' := by
  have E0 := Lib.hid (fun W (hb : Below w.heap.size w W) => i_end0 x0 x1 b0 b1 a0 a1 a2 c0 c1 c2 n2 W (hI.below hb) (hB.below hb) l0 u0 z0)
  have E1 := Lib.hid (fun W (hb : Below w.heap.size w W) => i_end1 x0 x1 b0 b1 a0 a1 a2 c0 c1 c2 n2 W (hI.below hb) (hB.below hb) l1 u1 z1)
  have HV : Hid (ovB x0 x1 b0 b1 = decide (max b0 b1 < min (b0 + (x0.s.size : Int)) (b1 + (x1.s.size : Int)))) := Lib.hid (by
    unfold ovB
    rw [← Bool.decide_and, ← Bool.decide_and, ← Bool.decide_and]
    exact decide_eq_decide.2 (by omega))
  obtain ⟨g, rfl, hg, HI, _⟩ := readIms2 hI
  obtain ⟨k, rfl, hk, HB1, HB2⟩ := readI2 hB
  have HX : Hid (∀ W, Below (w.heap.size + 1) (w.alloc (.cells #[.slice (some ⟨g, 0, none⟩) 2 c0, .slice (some ⟨k, 0, none⟩) 2 c1, .slice a2 n2 c2] 39)) W → (W.cell? ⟨w.heap.size, 0, none⟩ = some (.slice (some ⟨g, 0, none⟩) 2 c0) ∧ W.cell? ⟨w.heap.size, 1, none⟩ = some (.slice (some ⟨k, 0, none⟩) 2 c1) ∧ W.cell? ⟨w.heap.size, 2, none⟩ = some (.slice a2 n2 c2)) ∧ (W.cell? ⟨k, 0, none⟩ = some (.int .i64 b0) ∧ W.cell? ⟨k, 1, none⟩ = some (.int .i64 b1))) := Lib.hid (fun W hb => by
    have b' : Below w.heap.size w W := ((Below.refl w.heap.size w).alloc (Nat.le_refl _) _).trans (hb.mono (by omega))
    have hn := (hb.block w.heap.size (by omega)).trans (heap_alloc_new w _)
    exact ⟨⟨(blk hn).1 0 _ rfl, (blk hn).1 1 _ rfl, (blk hn).1 2 _ rfl⟩, ⟨(b'.cell (p := ⟨k, 0, none⟩) hk).trans HB1, (b'.cell (p := ⟨k, 1, none⟩) hk).trans HB2⟩⟩)
  generalize x0.s = s0 at *
  generalize x1.s = s1 at *
  obtain ⟨W0, hW0⟩ : ∃ W, w.alloc (.cells #[.slice (some ⟨g, 0, none⟩) 2 c0, .slice (some ⟨k, 0, none⟩) 2 c1, .slice a2 n2 c2] 39) = W := ⟨_, rfl⟩
  have hz : W0.heap.size = w.heap.size + 1 := by rw [← hW0]; simp
  have HBX : Hid (Below w.heap.size w W0) := Lib.hid (hW0 ▸ (Below.refl _ _).alloc (Nat.le_refl _) _)
  have KP : Hid (∀ W, Below W0.heap.size W0 W → (W.cell? ⟨w.heap.size, 0, none⟩ = some (.slice (some ⟨g, 0, none⟩) 2 c0) ∧ W.cell? ⟨w.heap.size, 1, none⟩ = some (.slice (some ⟨k, 0, none⟩) 2 c1) ∧ W.cell? ⟨w.heap.size, 2, none⟩ = some (.slice a2 n2 c2)) ∧ (W.cell? ⟨k, 0, none⟩ = some (.int .i64 b0) ∧ W.cell? ⟨k, 1, none⟩ = some (.int .i64 b1))) := Lib.hid (fun W hb => HX.out W (by rw [hz, ← hW0] at hb; exact hb))
  have ZA : Hid (w.heap.size ≤ W0.heap.size) := Lib.hid (by omega)
  have HW0 := Lib.hid hW0
  obtain ⟨⟨e0, e1, e2⟩, p0, p1⟩ := KP.out W0 (Below.refl _ _)
  clear hI hB HI HB1 HB2 hg hk HX hW0 hz
  go_enter Try.func36, Try.ntmps36
  go_upto_region 1 with fail
  rw [HW0.out]
  clear HW0
  go_region_held3 (fun W => (W.cell? ⟨w.heap.size, 0, none⟩ = some (.slice (some ⟨g, 0, none⟩) 2 c0) ∧ W.cell? ⟨w.heap.size, 1, none⟩ = some (.slice (some ⟨k, 0, none⟩) 2 c1) ∧ W.cell? ⟨w.heap.size, 2, none⟩ = some (.slice a2 n2 c2)) ∧ (W.cell? ⟨k, 0, none⟩ = some (.int .i64 b0) ∧ W.cell? ⟨k, 1, none⟩ = some (.int .i64 b1)))
    (first | exact KP.out _ (Below.refl W0.heap.size W0).drew | exact KP.out _ h5 | exact KP.out _ h6)
    (first
    | (go_at_call 50; (with_reducible refine (E0.out _ ?_).mono ?_); (first | exact HBX.out.drew | exact HBX.out | exact HBX.out.trans (h6.mono ZA.out)); rintro e w5 ⟨rfl, b5⟩; have h5 : Below W0.heap.size W0 w5 := (by first | exact undrew b5 | exact b5 | exact h6.trans (b5.mono h6.size)))
    | (go_at_call 50; (with_reducible refine (E1.out _ ?_).mono ?_); (first | exact HBX.out.drew | exact HBX.out | exact HBX.out.trans (h5.mono ZA.out)); rintro e w6 ⟨rfl, b6⟩; have h6 : Below W0.heap.size W0 w6 := (by first | exact undrew b6 | exact b6 | exact h5.trans (b6.mono h5.size))))
  all_goals
    have HBF := Lib.hid (HBX.out.trans (Below.mono (by first | exact h6.trans (b5.mono h6.size) | exact h5.trans (b6.mono h5.size)) ZA.out))
    clear h5 h6 b5 b6 e0 e1 e2 p0 p1
    go_wp2
    go_ret
    exact ⟨by rw [HV.out]; rfl, by first | exact HBF.out | exact HBX.out.trans (h6.mono ZA.out)⟩
end Go.Proofs.Ytljmkkodhnkemaa
