/- The laws' own functions on one line: the size, the line made of the argument, equality. -/
import Derived.Test.YthmllcpldgbbcaaDoorRows
import Derived.Test.YthmllcpldgbbcaaDoorPlainB
import Derived.Test.YthmllcpldgbbcaaDoorStrLaw
import Derived.Test.YthmllcpldgbbcaaDoorTokSz
import Derived.Test.YthmllcpldgbbcaaDoorTokTo
import Derived.Test.YthmllcpldgbbcaaDoorTokEq
import Derived.Test.YthmllcpldgbbcaaDoorEqStrs
import Derived.Outline
import Derived.Lib.Hide
namespace Go.Proofs.YthmllcpldgbbcaaDoor
open Go.RowKit Go.Lib

/-- The measure of a line: -1, or all is small. -/
def SzL (p : PLine) (left : Int) (w : World) (e : Ending) (w' : World) : Prop :=
  ∃ r : Int, e = .returned (.int .i64 r) ∧ Below w.heap.size w w' ∧ (r = -1 ∨ (0 ≤ r ∧ r + (p.args.length : Int) + (p.expr.length : Int) ≤ left ∧ SmallL p))

set_option maxRecDepth 100000 in
set_option maxHeartbeats 1000000 in
theorem l_szLine (x : ALine) (left : Int) (w : World) (ha : ArgLn w x) (h0 : 0 ≤ left) (h1 : left ≤ 1048576) :
    Calls Tryd.prog 37 #[.agg #[.int .i64 x.p.kind, .string x.p.name, .slice x.aa x.p.args.length x.ca, .slice x.ae x.p.expr.length x.ce], .int .i64 left] w (SzL x.p left w) := by
  obtain ⟨⟨hA, hT⟩, mA, mT, mN, _⟩ := ha
  have HA := Lib.hid hA
  have HT := Lib.hid hT
  have MA := Lib.hid mA
  have MT := Lib.hid mT
  clear hA hT mA mT
  unfold maxLen at mN
  obtain ⟨⟨k, nm, gs, ex⟩, aa, ca, ae, ce⟩ := x
  dsimp only at HA HT MA MT mN ⊢
  by_cases hbig : left < (nm.size : Int)
  · have hd : decide (left - (nm.size : Int) < 0) = true := by simp; omega
    go_enter Tryd.func37, Tryd.ntmps37
    go_wp2
    go_ret
    exact ⟨-1, rfl, (Below.refl _ _).alloc (Nat.le_refl _) _, .inl rfl⟩
  have hd : decide (left - (nm.size : Int) < 0) = false := by simp; omega
  obtain ⟨r0, hr0⟩ : ∃ r : Int, left - (nm.size : Int) = r := ⟨_, rfl⟩
  have q0 : 0 ≤ r0 := by omega
  have q1 : r0 ≤ 1048576 := by omega
  have q2 : r0 + (nm.size : Int) ≤ left := by omega
  have HR0 := Lib.hid hr0
  rw [hr0] at hd
  have b0 := (Below.refl w.heap.size w).alloc (Nat.le_refl _) (.cells #[.int .i64 k, .string nm, .slice aa gs.length ca, .slice ae ex.length ce] 55)
  have HAb := Lib.hid (HA.out.below b0)
  have HTb := Lib.hid (HT.out.below b0)
  clear b0
  go_enter Tryd.func37, Tryd.ntmps37
  go_wp2_with fail
  clear hr0
  refine (l_szStrS aa ca gs r0 _ MA.out HAb.out q0 q1).mono ?_
  rintro e w1 ⟨r1, rfl, rfl, hr1⟩
  rcases hr1 with rfl | ⟨p0, p1⟩
  · go_wp2
    go_ret
    exact ⟨-1, rfl, (Below.refl _ _).alloc (Nat.le_refl _) _, .inl rfl⟩
  have hd1 : decide (r1 < 0) = false := by simp; omega
  go_wp2_with fail
  refine (l_szTokS ae ce ex r1 _ MT.out HTb.out p0 (by omega)).mono ?_
  rintro e w2 ⟨r2, rfl, b2, hr2⟩
  have HB2 := Lib.hid b2
  clear b2
  rcases hr2 with rfl | ⟨s0, s1⟩
  · go_wp2
    go_ret
    exact ⟨-1, rfl, ((Below.refl _ _).alloc (Nat.le_refl _) _).trans (HB2.out.mono (by simp)), .inl rfl⟩
  have hd2 : decide (r2 < 0) = false := by simp; omega
  go_wp2
  go_ret
  refine ⟨r2, rfl, ((Below.refl _ _).alloc (Nat.le_refl _) _).trans (HB2.out.mono (by simp)), .inr ⟨s0, by show r2 + (gs.length : Int) + (ex.length : Int) ≤ left; omega, ?_⟩⟩
  refine ⟨?_, ?_, ?_, ?_, ?_⟩
  · show nm.size ≤ 1048576; omega
  · show gs.length ≤ 1048576; omega
  · intro s hs; have := sumS_mem gs s hs; omega
  · show ex.length ≤ 1048576; omega
  · intro t ht; have := sumN_mem ex t ht; omega
end Go.Proofs.YthmllcpldgbbcaaDoor
