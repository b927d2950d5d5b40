/- Locate, the program's. -/
import Derived.Test.YtcflojdkaddemaaSpcK
namespace Go.Proofs.Ytcflojdkaddemaa
open Go.RowKit Go.Lib

set_option maxRecDepth 100000 in
set_option maxHeartbeats 2000000 in
theorem i_slocate (I : List ImA) (B E : List Int) (a : Int) (a0 a1 a2 : Option Addr) (c0 c1 c2 : Nat) (w : World) (hI : ReadIms w a0 I) (hB : ReadI w a1 B) (hE : ReadI w a2 E) (hs : SmlI I B E) :
    Calls Try.prog 33 #[.agg #[.slice a0 I.length c0, .slice a1 B.length c1, .slice a2 E.length c2], .int .i64 a] w fun e w' => e = .returned (locV (slocZ I B E a)) ∧ Below w.heap.size w w' := by
  have TB := Lib.hid ((Below.refl w.heap.size w).alloc (Nat.le_refl _) (.cells #[.slice a0 I.length c0, .slice a1 B.length c1, .slice a2 E.length c2] 59))
  have T0 := Lib.hid (heap_alloc_new w (.cells #[.slice a0 I.length c0, .slice a1 B.length c1, .slice a2 E.length c2] 59))
  have SO := Lib.hid (fun W (hb : Below w.heap.size w W) => i_spaceOk I B E a0 a1 a2 c0 c1 c2 W (hI.below hb) (hB.below hb) (hE.below hb) hs)
  cases hv : spB I B E with
  | false =>
    have HV := Lib.hid (slocZ_no (a := a) hv)
    rw [hv] at SO
    clear hv hI hB hE hs
    go_enter Try.func33, Try.ntmps33
    go_wp2_with fail
    refine (SO.out _ TB.out).mono ?_
    rintro e w1 ⟨rfl, b1⟩
    have HB1 : Hid (Below w.heap.size w w1) := Lib.hid (TB.out.trans (b1.mono (by simp)))
    clear b1
    go_wp2
    go_ret2
    exact ⟨by rw [HV.out]; rfl, HB1.out⟩
  | true =>
    obtain ⟨x0, x1, b0, b1, rfl, rfl, h3, h4, SP⟩ := spB_is hv
    have HV := Lib.hid (slocZ_yes (a := a) hv)
    rw [hv] at SO
    have LC := Lib.hid (fun W (hb : Below w.heap.size w W) => i_spot x0 x1 b0 b1 a a0 a1 a2 c0 c1 c2 E.length W (hI.below hb) (hB.below hb) SP.l0 SP.u0 SP.l1 SP.u1 (by have := SP.size0; omega) (by have := SP.size1; omega))
    have SC := spot_cases b0 x0.s.size b1 x1.s.size a
    change (spA x0 x1 b0 b1 a = _ ∧ _) ∨ (spA x0 x1 b0 b1 a = _ ∧ _) ∨ (spA x0 x1 b0 b1 a = _ ∧ _) at SC
    obtain ⟨pi, po, hpp, hcs⟩ : ∃ pi po, spA x0 x1 b0 b1 a = (pi, po) ∧ (0 ≤ pi ∨ (pi = -1 ∧ po = -1)) := by
      rcases SC with ⟨h, _⟩ | ⟨h, _⟩ | ⟨h, _⟩
      · exact ⟨_, _, h, .inl (by omega)⟩
      · exact ⟨_, _, h, .inl (by omega)⟩
      · exact ⟨_, _, h, .inr ⟨rfl, rfl⟩⟩
    rw [hpp] at HV LC
    clear hv hI hB hE hs hpp SP SC
    rcases hcs with hpi | ⟨rfl, rfl⟩
    · have LC2 : Hid (∀ W, Below w.heap.size w W → Calls Try.prog 61 #[.agg #[.slice a0 2 c0, .slice a1 2 c1, .slice a2 E.length c2], .int .i64 a] W fun e w' => e = .returned (.tuple #[.agg #[.int .i64 pi, .int .i64 po], .bool true]) ∧ Below W.heap.size W w') := Lib.hid (fun W hb => by have h := LC.out W hb; rw [spotV_yes (show ¬ pi < 0 by omega)] at h; exact h)
      clear LC
      go_enter Try.func33, Try.ntmps33
      go_wp2_with fail
      refine (SO.out _ TB.out).mono ?_
      rintro e w1 ⟨rfl, b1⟩
      have HB1 : Hid (Below w.heap.size w w1) := Lib.hid (TB.out.trans (b1.mono (by simp)))
      have z1 := b1.size
      have P1 := Lib.hid ((b1.block _ (by simp)).trans T0.out)
      obtain ⟨e0, e1, e2⟩ : w1.cell? ⟨w.heap.size, 0, none⟩ = some (.slice a0 2 c0) ∧ w1.cell? ⟨w.heap.size, 1, none⟩ = some (.slice a1 2 c1) ∧ w1.cell? ⟨w.heap.size, 2, none⟩ = some (.slice a2 E.length c2) := ⟨(blk P1.out).1 0 _ rfl, (blk P1.out).1 1 _ rfl, (blk P1.out).1 2 _ rfl⟩
      clear b1
      go_wp2_with fail
      refine (LC2.out _ HB1.out).mono ?_
      rintro e w2 ⟨rfl, b2⟩
      have HB2 : Hid (Below w.heap.size w w2) := Lib.hid (HB1.out.trans (b2.mono (by simp at z1; omega)))
      have HB3 : Hid (Below w.heap.size w (w2.alloc (.cells #[.int .i64 pi, .int .i64 po] 97))) := Lib.hid (HB2.out.alloc HB2.out.size _)
      clear b2
      go_wp2_with fail
      go_quiet (fail)
      go_wp2
      go_ret2
      exact ⟨by rw [HV.out]; rfl, drewN_b HB3.out _⟩
    · have LC2 : Hid (∀ W, Below w.heap.size w W → Calls Try.prog 61 #[.agg #[.slice a0 2 c0, .slice a1 2 c1, .slice a2 E.length c2], .int .i64 a] W fun e w' => e = .returned (.tuple #[.agg #[.int .i64 0, .int .i64 0], .bool false]) ∧ Below W.heap.size W w') := Lib.hid (fun W hb => by have h := LC.out W hb; rw [spotV_no (show (-1 : Int) < 0 by omega)] at h; exact h)
      clear LC
      go_enter Try.func33, Try.ntmps33
      go_wp2_with fail
      refine (SO.out _ TB.out).mono ?_
      rintro e w1 ⟨rfl, b1⟩
      have HB1 : Hid (Below w.heap.size w w1) := Lib.hid (TB.out.trans (b1.mono (by simp)))
      have z1 := b1.size
      have P1 := Lib.hid ((b1.block _ (by simp)).trans T0.out)
      obtain ⟨e0, e1, e2⟩ : w1.cell? ⟨w.heap.size, 0, none⟩ = some (.slice a0 2 c0) ∧ w1.cell? ⟨w.heap.size, 1, none⟩ = some (.slice a1 2 c1) ∧ w1.cell? ⟨w.heap.size, 2, none⟩ = some (.slice a2 E.length c2) := ⟨(blk P1.out).1 0 _ rfl, (blk P1.out).1 1 _ rfl, (blk P1.out).1 2 _ rfl⟩
      clear b1
      go_wp2_with fail
      refine (LC2.out _ HB1.out).mono ?_
      rintro e w2 ⟨rfl, b2⟩
      have HB2 : Hid (Below w.heap.size w w2) := Lib.hid (HB1.out.trans (b2.mono (by simp at z1; omega)))
      have HB3 : Hid (Below w.heap.size w (w2.alloc (.cells #[.int .i64 0, .int .i64 0] 97))) := Lib.hid (HB2.out.alloc HB2.out.size _)
      clear b2
      go_wp2
      go_ret2
      exact ⟨by rw [HV.out]; rfl, HB3.out⟩
end Go.Proofs.Ytcflojdkaddemaa
