/- The laws' own functions on rows of places: the size. -/
import Derived.Test.YtakgjlpgcepnkaaPlaPlain
import Derived.Test.YtakgjlpgcepnkaaItmSzA
import Derived.Test.YtakgjlpgcepnkaaMakeRowN
import Derived.Test.YtakgjlpgcepnkaaIntsLaw
namespace Go.Proofs.Ytakgjlpgcepnkaa
open Go.RowKit Go.Lib

theorem l_szPlace (y : APl) (left : Int) (w : World) (h0 : 0 ≤ left) (h1 : left ≤ 1048576) (hx : ArgIt w y.x) :
    Calls Try.prog 44 #[.agg #[.int .i64 y.off, .int .i64 y.x.p.code, .int .i64 y.x.p.arg, .int .i64 y.x.p.line, .bool y.x.p.start, .slice y.x.a y.x.p.chain.length y.x.c, .int .i64 y.x.p.depth, .bool y.x.p.ent], .int .i64 left] w fun e w' => ∃ r : Int, e = .returned (.int .i64 r) ∧ Below w.heap.size w w' ∧ (r = -1 ∨ (0 ≤ r ∧ r + (y.x.p.chain.length : Int) ≤ left)) := by
  have HS := Lib.hid (fun W (hb : Below w.heap.size w W) => l_szItem y.x left W h0 h1 ⟨hx.1.below hb, hx.2⟩)
  clear hx
  obtain ⟨of, ⟨⟨co, ar, li, st, ch, de, en⟩, xa, xc⟩⟩ := y
  dsimp only at HS ⊢
  have HB : Hid (Below w.heap.size w (w.alloc (.cells #[.int .i64 of, .int .i64 co, .int .i64 ar, .int .i64 li, .bool st, .slice xa ch.length xc, .int .i64 de, .bool en] 80))) := Lib.hid ((Below.refl _ _).alloc (Nat.le_refl _) _)
  go_enter Try.func44, Try.ntmps44
  go_wp2_with fail
  refine (HS.out _ HB.out).mono ?_
  rintro e w1 ⟨r, rfl, b1, hr⟩
  have HB1 : Hid (Below w.heap.size w w1) := Lib.hid (HB.out.trans (b1.mono HB.out.size))
  clear b1
  rcases hr with rfl | ⟨r0, r1⟩
  · go_wp2
    go_ret
    exact ⟨-1, rfl, HB1.out, .inl rfl⟩
  · have hd : decide (r < 0) = false := by simp; omega
    go_wp2
    go_ret
    exact ⟨r, rfl, HB1.out, .inr ⟨r0, r1⟩⟩
/-- How long the chains are. -/
def sumP (l : List APl) : Nat := (l.map fun x => x.x.p.chain.length).sum
theorem sumP_next (l : List APl) (k : Nat) (h : k < l.length) : sumP (l.take (k + 1)) = sumP (l.take k) + l[k].x.p.chain.length := by
  unfold sumP
  rw [List.take_succ_eq_append_getElem h, List.map_append, List.sum_append]
  simp
theorem sumP_mem (l : List APl) (x : APl) (h : x ∈ l) : x.x.p.chain.length ≤ sumP l := by
  induction l with
  | nil => cases h
  | cons y r ih =>
    simp only [sumP, List.map_cons, List.sum_cons] at ih ⊢
    rcases List.mem_cons.1 h with rfl | h
    · omega
    · have := ih h; omega
def SzPl (l : List APl) (left : Int) (w : World) (e : Ending) (w' : World) : Prop :=
  ∃ r : Int, e = .returned (.int .i64 r) ∧ Below w.heap.size w w' ∧ (r = -1 ∨ (0 ≤ r ∧ (l.length : Int) + (sumP l : Int) ≤ left))
set_option maxRecDepth 100000 in
set_option maxHeartbeats 1000000 in
theorem l_szPlaceS (a : Option Addr) (cap : Nat) (l : List APl) (left : Int) (w : World) (hm : l.length ≤ maxLen) (ha : ArgPls w a l) (h0 : 0 ≤ left) (h1 : left ≤ 1048576) :
    Calls Try.prog 14 #[.slice a l.length cap, .int .i64 left] w (SzPl l left w) := by
  have HA := Lib.hid ha
  clear ha
  unfold maxLen at hm
  by_cases hbig : left < (l.length : Int)
  · have hd : decide (left - (l.length : Int) < 0) = true := by simp; omega
    go_enter Try.func14, Try.ntmps14
    go_wp2
    all_goals go_ret
    all_goals exact ⟨-1, rfl, Below.refl _ _, .inl rfl⟩
  have hd : decide (left - (l.length : Int) < 0) = false := by simp; omega
  have g0 : 0 ≤ left - (l.length : Int) := by omega
  go_enter Try.func14, Try.ntmps14
  go_wp2_with fail
  clear hd
  go_loopw [1, 5] (fun x i wr => ∃ (k : Nat) (r : Int), k ≤ l.length ∧ i = .int .i64 (k : Int) ∧ x = .int .i64 r ∧ 0 ≤ r ∧ r ≤ 1048576 ∧ r + (l.length : Int) + (sumP (l.take k) : Int) ≤ left ∧ Below w.heap.size w wr) (fun _ i _ => l.length - (RowKit.intOf i).toNat)
  case atStart => exact ⟨0, left - (l.length : Int), Nat.zero_le _, rfl, rfl, g0, by omega, by rw [List.take_zero]; simp [sumP], Below.refl _ _⟩
  case round =>
    obtain ⟨k, r, hk, rfl, rfl, r0, r1, hsum, hbel⟩ := hrel
    have HB := Lib.hid hbel
    have hB := hbel.size
    by_cases hlt : k < l.length
    · obtain ⟨x, rfl, hx, c0, c1, c2, c3, c4, c5, c6, c7, hln⟩ := (HA.out.below hbel) k hlt
      have hsn := sumP_next l k hlt
      obtain ⟨y, hy⟩ : ∃ y, l[k] = y := ⟨_, rfl⟩
      rw [hy] at c0 c1 c2 c3 c4 c5 c6 c7 hln hsn
      have HZ := Lib.hid (l_szPlace y r _ r0 r1 hln)
      obtain ⟨of, ⟨⟨co, ar, li, st, ch, de, en⟩, ya, yc⟩⟩ := y
      dsimp only at c0 c1 c2 c3 c4 c5 c6 c7 HZ hsn
      have HSN := Lib.hid hsn
      clear hsn
      have k0 : (0 : Int) ≤ (k : Int) := by omega
      have k1 : (k : Int) < (l.length : Int) := by omega
      clear hy hln hbel
      go_wp2_with fail
      refine HZ.out.mono ?_
      rintro e w1 ⟨r', rfl, b1, hr⟩
      have HB1 : Hid (Below w.heap.size w w1) := Lib.hid (HB.out.trans (b1.mono hB))
      clear b1 c0 c1 c2 c3 c4 c5 c6 c7
      rcases hr with rfl | ⟨p0, p1⟩
      · go_wp2
        go_ret
        exact ⟨-1, rfl, HB1.out, .inl rfl⟩
      · have hd : decide (r' < 0) = false := by simp; omega
        have hs2 : r' + (l.length : Int) + (sumP (l.take (k + 1)) : Int) ≤ left := by
          have h1 := HSN.out
          omega
        go_wp2
        go_roundw
        case rel => exact ⟨k + 1, r', by omega, by go_num, rfl, p0, by omega, hs2, HB1.out⟩
        case measure => simp [RowKit.intOf]; omega
    · have hsl : sumP (l.take k) = sumP l := by rw [List.take_of_length_le (by omega)]
      have HSL : Hid ((l.length : Int) + (sumP l : Int) ≤ left) := Lib.hid (by rw [← hsl]; omega)
      clear hsl
      go_wp2
      go_ret
      exact ⟨r, rfl, HB.out, .inr ⟨r0, HSL.out⟩⟩
end Go.Proofs.Ytakgjlpgcepnkaa
