/- Plain facts: The laws' own functions on one line: the size, the line made of the argument, equality; The laws' toLine: the program's line made of the argument; The laws' own functions on rows of lines: the size, the program's row made of it. Nothing of the program. -/
import Derived.Test.YtcnnfhcpkbjolaaDoorRows
import Derived.Test.YtcnnfhcpkbjolaaDoorPlainB
import Derived.Test.YtcnnfhcpkbjolaaDoorStrLaw
import Derived.Test.YtcnnfhcpkbjolaaDoorTokL
import Derived.Test.YtcnnfhcpkbjolaaDoorEqStrs
import Derived.Test.YtcnnfhcpkbjolaaDoorRowM
import Derived.Test.YtcnnfhcpkbjolaaDoorPlainR
import Derived.Outline
import Derived.Lib.Hide
/-! The laws' own functions on one line: the size, the line made of the argument, equality -/
namespace Go.Proofs.YtcnnfhcpkbjolaaDoor
open Go.RowKit Go.Lib

/-- The measure of a line: -1, or all is small. -/
def SzL (p : PLine) (left : Int) (w : World) (e : Ending) (w' : World) : Prop :=
  ∃ r : Int, e = .returned (.int .i64 r) ∧ Below w.heap.size w w' ∧ (r = -1 ∨ (0 ≤ r ∧ r + (p.args.length : Int) + (p.expr.length : Int) ≤ left ∧ SmallL p))

set_option maxRecDepth 100000 in
set_option maxHeartbeats 1000000 in
theorem l_szLine (x : ALine) (left : Int) (w : World) (ha : ArgLn w x) (h0 : 0 ≤ left) (h1 : left ≤ 1048576) :
    Calls Tryd.prog 36 #[.agg #[.int .i64 x.p.kind, .string x.p.name, .slice x.aa x.p.args.length x.ca, .slice x.ae x.p.expr.length x.ce], .int .i64 left] w (SzL x.p left w) := by
  obtain ⟨⟨hA, hT⟩, mA, mT, mN, _⟩ := ha
  have HA := Lib.hid hA
  have HT := Lib.hid hT
  have MA := Lib.hid mA
  have MT := Lib.hid mT
  clear hA hT mA mT
  unfold maxLen at mN
  obtain ⟨⟨k, nm, gs, ex⟩, aa, ca, ae, ce⟩ := x
  dsimp only at HA HT MA MT mN ⊢
  by_cases hbig : left < (nm.size : Int)
  · have hd : decide (left - (nm.size : Int) < 0) = true := by simp; omega
    go_enter Tryd.func36, Tryd.ntmps36
    go_wp2
    go_ret
    exact ⟨-1, rfl, (Below.refl _ _).alloc (Nat.le_refl _) _, .inl rfl⟩
  have hd : decide (left - (nm.size : Int) < 0) = false := by simp; omega
  obtain ⟨r0, hr0⟩ : ∃ r : Int, left - (nm.size : Int) = r := ⟨_, rfl⟩
  have q0 : 0 ≤ r0 := by omega
  have q1 : r0 ≤ 1048576 := by omega
  have q2 : r0 + (nm.size : Int) ≤ left := by omega
  have HR0 := Lib.hid hr0
  rw [hr0] at hd
  have b0 := (Below.refl w.heap.size w).alloc (Nat.le_refl _) (.cells #[.int .i64 k, .string nm, .slice aa gs.length ca, .slice ae ex.length ce] 64)
  have HAb := Lib.hid (HA.out.below b0)
  have HTb := Lib.hid (HT.out.below b0)
  clear b0
  go_enter Tryd.func36, Tryd.ntmps36
  go_wp2_with fail
  clear hr0
  refine (l_szStrS aa ca gs r0 _ MA.out HAb.out q0 q1).mono ?_
  rintro e w1 ⟨r1, rfl, rfl, hr1⟩
  rcases hr1 with rfl | ⟨p0, p1⟩
  · go_wp2
    go_ret
    exact ⟨-1, rfl, (Below.refl _ _).alloc (Nat.le_refl _) _, .inl rfl⟩
  have hd1 : decide (r1 < 0) = false := by simp; omega
  go_wp2_with fail
  refine (l_szTokS ae ce ex r1 _ MT.out HTb.out p0 (by omega)).mono ?_
  rintro e w2 ⟨r2, rfl, b2, hr2⟩
  have HB2 := Lib.hid b2
  clear b2
  rcases hr2 with rfl | ⟨s0, s1⟩
  · go_wp2
    go_ret
    exact ⟨-1, rfl, ((Below.refl _ _).alloc (Nat.le_refl _) _).trans (HB2.out.mono (by simp)), .inl rfl⟩
  have hd2 : decide (r2 < 0) = false := by simp; omega
  go_wp2
  go_ret
  refine ⟨r2, rfl, ((Below.refl _ _).alloc (Nat.le_refl _) _).trans (HB2.out.mono (by simp)), .inr ⟨s0, by show r2 + (gs.length : Int) + (ex.length : Int) ≤ left; omega, ?_⟩⟩
  refine ⟨?_, ?_, ?_, ?_, ?_⟩
  · show nm.size ≤ 1048576; omega
  · show gs.length ≤ 1048576; omega
  · intro s hs; have := sumS_mem gs s hs; omega
  · show ex.length ≤ 1048576; omega
  · intro t ht; have := sumN_mem ex t ht; omega
end Go.Proofs.YtcnnfhcpkbjolaaDoor

/-! The laws' toLine: the program's line made of the argument -/
namespace Go.Proofs.YtcnnfhcpkbjolaaDoor
open Go.RowKit Go.Lib

set_option maxRecDepth 100000 in
set_option maxHeartbeats 1000000 in
theorem l_toLine (x : ALine) (w : World) (hs : SmallL x.p) (ha : ArgLn w x) :
    Calls Tryd.prog 39 #[.agg #[.int .i64 x.p.kind, .string x.p.name, .slice x.aa x.p.args.length x.ca, .slice x.ae x.p.expr.length x.ce]] w (LnRes 9 83 w.heap.size x.p w) := by
  obtain ⟨⟨hA, hT⟩, _⟩ := ha
  have HA := Lib.hid hA
  have HT := Lib.hid hT
  have HS := Lib.hid hs
  clear hA hT hs
  obtain ⟨⟨k, nm, gs, ex⟩, aa, ca, ae, ce⟩ := x
  dsimp only at HA HT HS ⊢
  have T3 := Lib.hid (three_new w (.cells #[.int .i64 k, .string nm, .slice aa gs.length ca, .slice ae ex.length ce] 64) (.cells #[.int .i64 0, .string ⟨#[]⟩, .slice none 0 0, .slice none 0 0] 48) (.cells #[.int .i64 k, .string nm, .slice none 0 0, .slice none 0 0] 48))
  go_enter Tryd.func39, Tryd.ntmps39
  go_wp2_with fail
  refine (l_toStrS aa ca gs _ HS.out.2.1 (HA.out.below T3.out.2.2.2.2)).mono ?_
  rintro e w1 ⟨va, rfl, O1, b1⟩
  obtain ⟨av, cv, rfl⟩ := owns_shape O1
  obtain ⟨t0, t1, t2, tz, tb⟩ := T3.out
  rw [tz] at O1 b1
  have p0 := (b1.block _ (by omega)).trans t0
  have p1 := (b1.block _ (by omega)).trans t1
  have p2 := (b1.block _ (by omega)).trans t2
  have z1 := b1.size
  rw [tz] at z1
  have HB1 : Hid (Below w.heap.size w w1) := Lib.hid (tb.trans (b1.mono (by omega)))
  have HO1 := Lib.hid O1
  have HP0 := Lib.hid p0
  have HP1 := Lib.hid p1
  have HP2 := Lib.hid p2
  have e0 : w1.cell? ⟨w.heap.size, 3, none⟩ = some (.slice ae ex.length ce) := (blk p0).1 3 _ rfl
  have e2 : w1.cell? ⟨w.heap.size + 1 + 1, 2, none⟩ = some (.slice none 0 0) := (blk p2).1 2 _ rfl
  have f2 := (blk p2).2.1 2
  have l2 := (blk p2).2.2
  have GS := Lib.hid (grown_setCell w1 (w.heap.size + 1 + 1) 2 (.slice av gs.length cv))
  have HB2 : Hid (Below w.heap.size w (w1.setCell ⟨w.heap.size + 1 + 1, 2, none⟩ (.slice av gs.length cv))) := Lib.hid (HB1.out.setCell (by simp; omega) _)
  clear t0 t1 t2 tz tb p0 p1 p2 O1 b1
  go_wp2_with fail
  refine (l_toTokS ae ce ex _ HS.out.2.2.2.1 (HT.out.below HB2.out)).mono ?_
  rintro e w2 ⟨ve, rfl, O2, b2⟩
  obtain ⟨ax, cx, rfl⟩ := owns3_shape O2
  have sz : (w1.setCell ⟨w.heap.size + 1 + 1, 2, none⟩ (.slice av gs.length cv)).heap.size = w1.heap.size := by simp [World.setCell]
  have q1 := (b2.block _ (by rw [sz]; omega)).trans ((set_other (by omega)).trans HP1.out)
  have q2 := (b2.block _ (by rw [sz]; omega)).trans (heap_setCell_at HP2.out (.slice av gs.length cv))
  have z2 := b2.size
  rw [sz] at z2
  have HB3 : Hid (Below w.heap.size w w2) := Lib.hid (HB2.out.trans (b2.mono (by rw [sz]; omega)))
  have HO1' := Lib.hid (owns_below (HO1.out.kept GS.out (.inr (fun e => by have := (HO1.out.lt _ e).1; omega))) b2)
  rw [sz] at O2
  have HO2 := Lib.hid O2
  have c20 : w2.cell? ⟨w.heap.size + 1 + 1, 0, none⟩ = some (.int .i64 k) := (blk q2).1 0 _ rfl
  have c21 : w2.cell? ⟨w.heap.size + 1 + 1, 1, none⟩ = some (.string nm) := (blk q2).1 1 _ rfl
  have c22 : w2.cell? ⟨w.heap.size + 1 + 1, 2, none⟩ = some (.slice av gs.length cv) := (blk q2).1 2 _ rfl
  have c23 : w2.cell? ⟨w.heap.size + 1 + 1, 3, none⟩ = some (.slice none 0 0) := (blk q2).1 3 _ rfl
  have g2 := (blk q2).2.1 3
  have d0 : w2.cell? ⟨w.heap.size + 1, 0, none⟩ = some (.int .i64 0) := (blk q1).1 0 _ rfl
  have d1 : w2.cell? ⟨w.heap.size + 1, 1, none⟩ = some (.string ⟨#[]⟩) := (blk q1).1 1 _ rfl
  have d2 : w2.cell? ⟨w.heap.size + 1, 2, none⟩ = some (.slice none 0 0) := (blk q1).1 2 _ rfl
  have d3 : w2.cell? ⟨w.heap.size + 1, 3, none⟩ = some (.slice none 0 0) := (blk q1).1 3 _ rfl
  have g10 := (blk q1).2.1 0
  have g11 := (blk q1).2.1 1
  have g12 := (blk q1).2.1 2
  have g13 := (blk q1).2.1 3
  have m2 := (blk q2).2.2
  have m1 := (blk q1).2.2
  clear e0 e2 f2 sz q1 q2 O2 b2
  go_wp2
  refine bodyPost_ret (v := .agg #[.int .i64 k, .string nm, .slice av gs.length cv, .slice ax ex.length cx]) (by simp [results, Tryd.results39, go_sem, d0, d1, d2, d3, m1, m2, c20, c21, c22, c23]) rfl ⟨.slice av gs.length cv, .slice ax ex.length cx, rfl, ?_, ?_, ?_⟩
  · exact owns_lo (owns_set (owns_set (owns_set (owns_set (owns_set HO1'.out (by omega)) (by omega)) (by omega)) (by omega)) (by omega)) (by omega)
  · exact owns_lo (owns_set (owns_set (owns_set (owns_set (owns_set HO2.out (by omega)) (by omega)) (by omega)) (by omega)) (by omega)) (by omega)
  · exact ((((HB3.out.setCell (by simp; omega) _).setCell (by simp) _).setCell (by simp) _).setCell (by simp) _).setCell (by simp) _
end Go.Proofs.YtcnnfhcpkbjolaaDoor

/-! The laws' own functions on rows of lines: the size, the program's row made of it -/
namespace Go.Proofs.YtcnnfhcpkbjolaaDoor
open Go.RowKit Go.Lib

/-- How many arguments and tokens the lines have. -/
def sumA (l : List ALine) : Nat := (l.map fun x => x.p.args.length + x.p.expr.length).sum
theorem sumA_next (l : List ALine) (k : Nat) (h : k < l.length) : sumA (l.take (k + 1)) = sumA (l.take k) + (l[k].p.args.length + l[k].p.expr.length) := by
  unfold sumA
  rw [List.take_succ_eq_append_getElem h, List.map_append, List.sum_append]
  simp
/-- The measure of a row of lines: -1, or all is small. -/
def SzLs (l : List ALine) (left : Int) (w : World) (e : Ending) (w' : World) : Prop :=
  ∃ r : Int, e = .returned (.int .i64 r) ∧ Below w.heap.size w w' ∧ (r = -1 ∨ (0 ≤ r ∧ (l.length : Int) + (sumA l : Int) ≤ left ∧ ∀ x ∈ l, SmallL x.p))
theorem small_next (l : List ALine) (k : Nat) (hk : k < l.length) (h : ∀ x ∈ l.take k, SmallL x.p) (hx : SmallL l[k].p) : ∀ x ∈ l.take (k + 1), SmallL x.p := by
  intro x hx'
  rw [List.take_succ_eq_append_getElem hk] at hx'
  rcases List.mem_append.1 hx' with h' | h'
  · exact h x h'
  · rw [List.mem_singleton] at h'; rw [h']; exact hx

set_option maxRecDepth 100000 in
set_option maxHeartbeats 1000000 in
theorem l_szLineS (a : Option Addr) (cap : Nat) (l : List ALine) (left : Int) (w : World) (hm : l.length ≤ maxLen) (ha : ArgLs w a l) (h0 : 0 ≤ left) (h1 : left ≤ 1048576) :
    Calls Tryd.prog 15 #[.slice a l.length cap, .int .i64 left] w (SzLs l left w) := by
  have HA := Lib.hid ha
  clear ha
  unfold maxLen at hm
  by_cases hbig : left < (l.length : Int)
  · have hd : decide (left - (l.length : Int) < 0) = true := by simp; omega
    go_enter Tryd.func15, Tryd.ntmps15
    go_wp2
    all_goals go_ret
    all_goals exact ⟨-1, rfl, Below.refl _ _, .inl rfl⟩
  have hd : decide (left - (l.length : Int) < 0) = false := by simp; omega
  have g0 : 0 ≤ left - (l.length : Int) := by omega
  go_enter Tryd.func15, Tryd.ntmps15
  go_wp2_with fail
  clear hd
  go_loopw [1, 5] (fun x i wr => ∃ (k : Nat) (r : Int), k ≤ l.length ∧ i = .int .i64 (k : Int) ∧ x = .int .i64 r ∧ 0 ≤ r ∧ r ≤ 1048576 ∧ r + (l.length : Int) + (sumA (l.take k) : Int) ≤ left ∧ Hid (∀ x ∈ l.take k, SmallL x.p) ∧ Below w.heap.size w wr) (fun _ i _ => l.length - (RowKit.intOf i).toNat)
  case atStart => exact ⟨0, left - (l.length : Int), Nat.zero_le _, rfl, rfl, g0, by omega, by rw [List.take_zero]; simp [sumA], Lib.hid (fun x hx => by simp at hx), Below.refl _ _⟩
  case round =>
    obtain ⟨k, r, hk, rfl, rfl, r0, r1, hsum, HS, hbel⟩ := hrel
    have HB := Lib.hid hbel
    have hB := hbel.size
    by_cases hlt : k < l.length
    · obtain ⟨x, rfl, hx, c0, c1, c2, c3, hln⟩ := (HA.out.below hbel) k hlt
      have NX := Lib.hid (small_next l k hlt HS.out)
      have hsn := sumA_next l k hlt
      obtain ⟨y, hy⟩ : ∃ y, l[k] = y := ⟨_, rfl⟩
      rw [hy] at c0 c1 c2 c3 hln NX hsn
      have HZ := Lib.hid (l_szLine y r _ hln r0 r1)
      obtain ⟨⟨kk, nm, gs, ex⟩, aa, ca, ae, ce⟩ := y
      dsimp only at c0 c1 c2 c3 HZ NX hsn
      have HSN := Lib.hid hsn
      clear hsn
      have k0 : (0 : Int) ≤ (k : Int) := by omega
      have k1 : (k : Int) < (l.length : Int) := by omega
      clear hy hln hbel
      go_wp2_with fail
      refine HZ.out.mono ?_
      rintro e w1 ⟨r', rfl, b1, hr⟩
      have HB1 : Hid (Below w.heap.size w w1) := Lib.hid (HB.out.trans (b1.mono hB))
      clear b1 c0 c1 c2 c3
      rcases hr with rfl | ⟨p0, p1, p2⟩
      · go_wp2
        go_ret
        exact ⟨-1, rfl, HB1.out, .inl rfl⟩
      · have HN := Lib.hid (NX.out p2)
        have hd : decide (r' < 0) = false := by simp; omega
        have hs2 : r' + (l.length : Int) + (sumA (l.take (k + 1)) : Int) ≤ left := by
          have h1 := HSN.out
          dsimp only at p1
          omega
        clear p2 NX
        go_wp2
        go_roundw
        case rel => exact ⟨k + 1, r', by omega, by go_num, rfl, p0, by omega, hs2, HN, HB1.out⟩
        case measure => simp [RowKit.intOf]; omega
    · have HN : Hid (∀ x ∈ l, SmallL x.p) := Lib.hid (by have h := HS.out; rwa [List.take_of_length_le (by omega)] at h)
      have hsl : sumA (l.take k) = sumA l := by rw [List.take_of_length_le (by omega)]
      have HSL : Hid ((l.length : Int) + (sumA l : Int) ≤ left) := Lib.hid (by rw [← hsl]; omega)
      clear hsl
      go_wp2
      go_ret
      exact ⟨r, rfl, HB.out, .inr ⟨r0, HSL.out, HN.out⟩⟩

/-- A row of lines was returned: the lines, in a row of its own from block B on. -/
def LnsRes (TL TS TK B : Nat) (ps : List PLine) (w : World) (e : Ending) (w' : World) : Prop :=
  ∃ v X, e = .returned v ∧ w'.ownsRow B TL 4 v X.length (lnsV X) ∧ Made TS TK B w' X ∧ plL X = ps ∧ Below w.heap.size w w'
theorem infoLn : (Tryd.prog.info? 48).map (fun i => (i.zero, i.size, i.bytes)) = some (some (.agg #[.int .i64 0, .string ⟨#[]⟩, .slice none 0 0, .slice none 0 0]), 4, 72) := by kernel_rfl
def psA (l : List ALine) : List PLine := l.map (·.p)
theorem psA_next (l : List ALine) (k : Nat) (h : k < l.length) : psA (l.take (k + 1)) = psA (l.take k) ++ [l[k].p] := by
  rw [List.take_succ_eq_append_getElem h]
  unfold psA
  rw [List.map_append]
  rfl

theorem row_block {B T n s g o c : Nat} {w : World} {xs : List Value} (h : w.ownsRow B T s (.slice (some ⟨g, o, none⟩) n c) n xs) : ∃ cur, w.heap[g]? = some (.cells cur T (0, 0)) := by
  rcases h.2 with ⟨e, _⟩ | ⟨g', cap, cur, e, _, hg, _⟩
  · injection e with e; cases e
  · injection e with e
    injection e with e
    injection e with e
    subst e
    exact ⟨cur, hg⟩
set_option maxRecDepth 100000 in
set_option maxHeartbeats 2000000 in
theorem l_toLineS (a : Option Addr) (cap : Nat) (l : List ALine) (w : World) (hl : l.length ≤ 1048576) (ha : ArgLs w a l) (hs : ∀ x ∈ l, SmallL x.p) :
    Calls Tryd.prog 17 #[.slice a l.length cap] w (LnsRes 48 9 83 w.heap.size (psA l) w) := by
  have HA := Lib.hid ha
  have HSM := Lib.hid hs
  clear ha hs
  obtain ⟨i0, hi, hz0, hz1, hz2⟩ := info_parts infoLn
  have hmk := fun W => run_make_rowN (P := Tryd.prog) 24 48 i0 _ 4 72 Tryd.underlying24 hi hz0 hz1 hz2 .i64 .i64 l.length l.length (Nat.le_refl _) (by omega) (by omega) W
  obtain ⟨cs, hcs⟩ : ∃ cs, madeCells (Value.agg #[.int .i64 0, .string ⟨#[]⟩, .slice none 0 0, .slice none 0 0]).cells (l.length * 4) = cs := ⟨_, rfl⟩
  have hcsz : cs.size = l.length * 4 := by rw [← hcs, size_madeCells]
  rw [hcs] at hmk
  clear hcs hi hz0 hz1 hz2
  have HZ := Lib.hid hcsz
  clear hcsz
  go_enter Tryd.func17, Tryd.ntmps17
  go_wp2_with fail
  clear hmk
  go_loopw [4] (fun i wr => ∃ (k : Nat) (X : List LnL) (R : List Value), k ≤ l.length ∧ i = .int .i64 (k : Int) ∧ R.length = (l.length - k) * 4 ∧ X.length = k ∧ Hid (plL X = psA (l.take k)) ∧ Made 9 83 w.heap.size wr X ∧ wr.ownsRow w.heap.size 48 4 (.slice (some ⟨w.heap.size, 0, none⟩) l.length l.length) l.length (lnsV X ++ R) ∧ Below w.heap.size w wr) (fun i _ => l.length - (RowKit.intOf i).toNat)
  case atStart => exact ⟨0, [], cs.toList, Nat.zero_le _, rfl, by simpa using HZ.out, rfl, Lib.hid rfl, Made.nil _ _ _ _, World.ownsRow_lit _ _ _ (Nat.le_refl _) (by unfold maxLen; omega) HZ.out, (Below.refl _ _).alloc (Nat.le_refl _) _⟩
  case round =>
    obtain ⟨k, X, R, hk, rfl, hR, hX, HP, hall, hown, hbel⟩ := hrel
    have HO := Lib.hid hown
    have HB := Lib.hid hbel
    have HAL := Lib.hid hall
    have hB := hbel.size
    have hgl : w.heap.size < wr.heap.size := (hown.lt w.heap.size rfl).2
    clear hown hall
    by_cases hlt : k < l.length
    · obtain ⟨x, rfl, hx, c0, c1, c2, c3, hln⟩ := (HA.out.below hbel) k hlt
      have hsm := HSM.out _ (List.getElem_mem hlt)
      have PN := Lib.hid (psA_next l k hlt)
      obtain ⟨y, hy⟩ : ∃ y, l[k] = y := ⟨_, rfl⟩
      rw [hy] at c0 c1 c2 c3 hln hsm PN
      obtain ⟨y0, y1, y2, y3, R', hRe, hR'⟩ := four R (l.length - (k + 1)) (by rw [hR]; congr 1; omega)
      subst hRe
      have HR' := Lib.hid hR'
      have HC := Lib.hid (l_toLine y _ hsm hln)
      obtain ⟨⟨kk, nm, gs, ex⟩, aa, ca, ae, ce⟩ := y
      dsimp only at c0 c1 c2 c3 HC PN
      have HS := Lib.hid (fun va ve => headL_set X k hX ⟨kk, nm, gs, ex, va, ve⟩ y0 y1 y2 y3 R')
      have HXL := Lib.hid hX
      have k0 : (0 : Int) ≤ (k : Int) := by omega
      have k1 : (k : Int) < (l.length : Int) := by omega
      clear hy hsm hln hR hR' hbel hX
      go_wp2_with fail
      refine HC.out.mono ?_
      rintro e w1 ⟨va, ve, rfl, O1, O2, b1⟩
      obtain ⟨av, cv, rfl⟩ := owns_shape O1
      obtain ⟨ae', ce', rfl⟩ := owns3_shape O2
      have HO1 := Lib.hid (owns3_below HO.out b1)
      have HB1 := Lib.hid (HB.out.trans (b1.mono hB))
      have hs1 := b1.size
      have HAL1 : Hid (Made 9 83 w.heap.size w1 (X ++ [⟨kk, nm, gs, ex, .slice av gs.length cv, .slice ae' ex.length ce'⟩])) := Lib.hid (HAL.out.snoc b1 ⟨O1, O2⟩ hB (Nat.le_refl _))
      have HSS := Lib.hid (HS.out (.slice av gs.length cv) (.slice ae' ex.length ce'))
      clear b1 c0 c1 c2 c3 O1 O2
      have hlen : (lnsV X ++ y0 :: y1 :: y2 :: y3 :: R').length = l.length * 4 := HO1.out.1
      have cellk : ∀ i, i < 4 → ∃ y, w1.cell? ⟨w.heap.size, k * 4 + i, none⟩ = some y := fun i hi => by
        have := HO1.out.cellAt (k * 4 + i) (by omega)
        rw [this]
        exact ⟨_, List.getElem?_eq_getElem (by omega)⟩
      obtain ⟨z0, e0⟩ := cellk 0 (by omega)
      rw [Nat.add_zero] at e0
      obtain ⟨z1, e1⟩ := cellk 1 (by omega)
      obtain ⟨z2, e2⟩ := cellk 2 (by omega)
      obtain ⟨z3, e3⟩ := cellk 3 (by omega)
      have fr := HO1.out.frozenAt
      have S1 := HO1.out.stored (k * 4) (.int .i64 kk)
      have S2 := S1.1.stored (k * 4 + 1) (.string nm)
      have S3 := S2.1.stored (k * 4 + 2) (.slice av gs.length cv)
      have S4 := S3.1.stored (k * 4 + 3) (.slice ae' ex.length ce')
      have HO2 := Lib.hid (HSS.out ▸ S4.1)
      have HG := Lib.hid (((S1.2.trans S2.2).trans S3.2).trans S4.2)
      have HB2 := Lib.hid (HB1.out.grown HG.out (by omega) (fun j hj => by injection hj with e; omega))
      clear cellk hlen S1 S2 S3 S4
      go_wp2
      go_roundw
      case rel =>
        refine ⟨k + 1, X ++ [⟨kk, nm, gs, ex, .slice av gs.length cv, .slice ae' ex.length ce'⟩], R', by omega, by go_num, HR'.out, by rw [List.length_append, HXL.out]; rfl, Lib.hid ?_, ?_, HO2.out, HB2.out⟩
        · rw [PN.out, ← HP.out]; simp [plL, LnL.p]
        · refine Made.grown (TL := 48) HAL1.out HG.out ?_ (by decide) (by decide)
          rintro g ⟨⟩
          obtain ⟨cur, hcur⟩ := row_block HO1.out
          exact .inr ⟨cur, hcur⟩
      case measure => simp [RowKit.intOf]; omega
    · have hkk : k = l.length := by omega
      subst hkk
      have hR0 : R = [] := List.length_eq_zero_iff.1 (by rw [hR]; simp)
      subst hR0
      have HPF : Hid (plL X = psA l) := Lib.hid (by have h := HP.out; rwa [List.take_of_length_le (Nat.le_refl _)] at h)
      have HOF : Hid (wr.ownsRow w.heap.size 48 4 (.slice (some ⟨w.heap.size, 0, none⟩) l.length l.length) X.length (lnsV X)) := Lib.hid (by have h := HO.out; rw [List.append_nil] at h; rw [hX]; exact h)
      clear hX hR HO hlt
      go_wp2
      go_ret
      exact ⟨_, X, rfl, HOF.out, HAL.out, HPF.out, HB.out⟩
end Go.Proofs.YtcnnfhcpkbjolaaDoor
