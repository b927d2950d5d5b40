/- The laws' own functions on rows of items: the size, the program's row made of it. -/
import Derived.Test.YtbccejnkklopfaaRows
import Derived.Test.YtbccejnkklopfaaItmPlain
import Derived.Test.YtbccejnkklopfaaMakeRowN
import Derived.Outline
import Derived.Lib.Hide
namespace Go.Proofs.Ytbccejnkklopfaa
open Go.RowKit Go.Lib

theorem l_szIntS (a : Option Addr) (cap n : Nat) (left : Int) (w : World) (h0 : 0 ≤ left) (h1 : left ≤ 1048576) (hn : n ≤ maxLen) :
    Calls Try.prog 17 #[.slice a n cap, .int .i64 left] w fun e w' => ∃ r : Int, e = .returned (.int .i64 r) ∧ w = w' ∧ (r = -1 ∨ (0 ≤ r ∧ r + (n : Int) ≤ left)) := by
  unfold maxLen at hn
  by_cases hbig : left < (n : Int)
  · have hd : decide (left - (n : Int) < 0) = true := by simp; omega
    go_enter Try.func17, Try.ntmps17
    go_wp2
    all_goals go_ret
    all_goals exact ⟨-1, rfl, rfl, .inl rfl⟩
  · have hd : decide (left - (n : Int) < 0) = false := by simp; omega
    go_enter Try.func17, Try.ntmps17
    go_wp2
    all_goals go_ret
    all_goals exact ⟨left - (n : Int), rfl, rfl, .inr ⟨by omega, by omega⟩⟩
theorem l_szItem (x : AIt) (left : Int) (w : World) (h0 : 0 ≤ left) (h1 : left ≤ 1048576) (hx : ArgIt w x) :
    Calls Try.prog 14 #[.agg #[.int .i64 x.p.code, .int .i64 x.p.arg, .int .i64 x.p.line, .bool x.p.start, .slice x.a x.p.chain.length x.c, .int .i64 x.p.depth, .bool x.p.ent], .int .i64 left] w fun e w' => ∃ r : Int, e = .returned (.int .i64 r) ∧ Below w.heap.size w w' ∧ (r = -1 ∨ (0 ≤ r ∧ r + (x.p.chain.length : Int) ≤ left)) := by
  have HS := Lib.hid (fun W => l_szIntS x.a x.c x.p.chain.length left W h0 h1 hx.2)
  clear hx
  obtain ⟨⟨co, ar, li, st, ch, de, en⟩, xa, xc⟩ := x
  dsimp only at HS ⊢
  go_enter Try.func14, Try.ntmps14
  go_wp2_with fail
  refine (HS.out _).mono ?_
  rintro e w1 ⟨r, rfl, rfl, hr⟩
  rcases hr with rfl | ⟨r0, r1⟩
  · go_wp2
    go_ret
    exact ⟨-1, rfl, (Below.refl _ _).alloc (Nat.le_refl _) _, .inl rfl⟩
  · have hd : decide (r < 0) = false := by simp; omega
    go_wp2
    go_ret
    exact ⟨r, rfl, (Below.refl _ _).alloc (Nat.le_refl _) _, .inr ⟨r0, r1⟩⟩
/-- How long the chains are. -/
def sumC (l : List AIt) : Nat := (l.map fun x => x.p.chain.length).sum
theorem sumC_next (l : List AIt) (k : Nat) (h : k < l.length) : sumC (l.take (k + 1)) = sumC (l.take k) + l[k].p.chain.length := by
  unfold sumC
  rw [List.take_succ_eq_append_getElem h, List.map_append, List.sum_append]
  simp
theorem sumC_mem (l : List AIt) (x : AIt) (h : x ∈ l) : x.p.chain.length ≤ sumC l := by
  induction l with
  | nil => cases h
  | cons y r ih =>
    simp only [sumC, List.map_cons, List.sum_cons] at ih ⊢
    rcases List.mem_cons.1 h with rfl | h
    · omega
    · have := ih h; omega
def SzIs (l : List AIt) (left : Int) (w : World) (e : Ending) (w' : World) : Prop :=
  ∃ r : Int, e = .returned (.int .i64 r) ∧ Below w.heap.size w w' ∧ (r = -1 ∨ (0 ≤ r ∧ (l.length : Int) + (sumC l : Int) ≤ left))
set_option maxRecDepth 100000 in
set_option maxHeartbeats 1000000 in
theorem l_szItemS (a : Option Addr) (cap : Nat) (l : List AIt) (left : Int) (w : World) (hm : l.length ≤ maxLen) (ha : ArgIts w a l) (h0 : 0 ≤ left) (h1 : left ≤ 1048576) :
    Calls Try.prog 8 #[.slice a l.length cap, .int .i64 left] w (SzIs l left w) := by
  have HA := Lib.hid ha
  clear ha
  unfold maxLen at hm
  by_cases hbig : left < (l.length : Int)
  · have hd : decide (left - (l.length : Int) < 0) = true := by simp; omega
    go_enter Try.func8, Try.ntmps8
    go_wp2
    all_goals go_ret
    all_goals exact ⟨-1, rfl, Below.refl _ _, .inl rfl⟩
  have hd : decide (left - (l.length : Int) < 0) = false := by simp; omega
  have g0 : 0 ≤ left - (l.length : Int) := by omega
  go_enter Try.func8, Try.ntmps8
  go_wp2_with fail
  clear hd
  go_loopw [1, 5] (fun x i wr => ∃ (k : Nat) (r : Int), k ≤ l.length ∧ i = .int .i64 (k : Int) ∧ x = .int .i64 r ∧ 0 ≤ r ∧ r ≤ 1048576 ∧ r + (l.length : Int) + (sumC (l.take k) : Int) ≤ left ∧ Below w.heap.size w wr) (fun _ i _ => l.length - (RowKit.intOf i).toNat)
  case atStart => exact ⟨0, left - (l.length : Int), Nat.zero_le _, rfl, rfl, g0, by omega, by rw [List.take_zero]; simp [sumC], Below.refl _ _⟩
  case round =>
    obtain ⟨k, r, hk, rfl, rfl, r0, r1, hsum, hbel⟩ := hrel
    have HB := Lib.hid hbel
    have hB := hbel.size
    by_cases hlt : k < l.length
    · obtain ⟨x, rfl, hx, c0, c1, c2, c3, c4, c5, c6, hln⟩ := (HA.out.below hbel) k hlt
      have hsn := sumC_next l k hlt
      obtain ⟨y, hy⟩ : ∃ y, l[k] = y := ⟨_, rfl⟩
      rw [hy] at c0 c1 c2 c3 c4 c5 c6 hln hsn
      have HZ := Lib.hid (l_szItem y r _ r0 r1 hln)
      obtain ⟨⟨co, ar, li, st, ch, de, en⟩, ya, yc⟩ := y
      dsimp only at c0 c1 c2 c3 c4 c5 c6 HZ hsn
      have HSN := Lib.hid hsn
      clear hsn
      have k0 : (0 : Int) ≤ (k : Int) := by omega
      have k1 : (k : Int) < (l.length : Int) := by omega
      clear hy hln hbel
      go_wp2_with fail
      refine HZ.out.mono ?_
      rintro e w1 ⟨r', rfl, b1, hr⟩
      have HB1 : Hid (Below w.heap.size w w1) := Lib.hid (HB.out.trans (b1.mono hB))
      clear b1 c0 c1 c2 c3 c4 c5 c6
      rcases hr with rfl | ⟨p0, p1⟩
      · go_wp2
        go_ret
        exact ⟨-1, rfl, HB1.out, .inl rfl⟩
      · have hd : decide (r' < 0) = false := by simp; omega
        have hs2 : r' + (l.length : Int) + (sumC (l.take (k + 1)) : Int) ≤ left := by
          have h1 := HSN.out
          omega
        go_wp2
        go_roundw
        case rel => exact ⟨k + 1, r', by omega, by go_num, rfl, p0, by omega, hs2, HB1.out⟩
        case measure => simp [RowKit.intOf]; omega
    · have hsl : sumC (l.take k) = sumC l := by rw [List.take_of_length_le (by omega)]
      have HSL : Hid ((l.length : Int) + (sumC l : Int) ≤ left) := Lib.hid (by rw [← hsl]; omega)
      clear hsl
      go_wp2
      go_ret
      exact ⟨r, rfl, HB.out, .inr ⟨r0, HSL.out⟩⟩
end Go.Proofs.Ytbccejnkklopfaa
