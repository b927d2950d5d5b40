/- NewMachine, of the program and of the model. -/
import Derived.Test.YtljmkkodhnkemaaMchVl
import Derived.Test.YtljmkkodhnkemaaIntsLaw
import Derived.Test.YtljmkkodhnkemaaSpcK
import Derived.Test.YtljmkkodhnkemaaSpcS
import Derived.Test.YtljmkkodhnkemaaSpcPlain
import Derived.Laws.OwnMore
import Derived.RegionTactic
import Derived.BigRegion
import Derived.ChangeAlike
import Derived.Deep.Cut
namespace Go.Proofs.Ytljmkkodhnkemaa
open Go.RowKit Go.Lib

/-- NewMachine, plain. -/
def newZ (b : Bool) (E : List Int) : McL := if b then ⟨E.headD 0, 1199, 1200, List.replicate 1200 0, [], 0, 0⟩ else ⟨0, 0, 0, [], [], 0, 0⟩
theorem newZ_len (b : Bool) (E : List Int) : (newZ b E).st.length ≤ 1200 ∧ (newZ b E).out = [] := by
  cases b with
  | false => exact ⟨Nat.zero_le _, rfl⟩
  | true => exact ⟨by show (List.replicate 1200 (0 : Int)).length ≤ 1200; rw [List.length_replicate]; exact Nat.le_refl _, rfl⟩
/-- A machine that NewMachine has made. -/
def NmR (b : Bool) (E : List Int) (w : World) (e : Ending) (w' : World) : Prop := ∃ v1 v2, e = .returned (.tuple #[mcA (newZ b E) v1 v2, .bool b]) ∧ w'.ownsRow w.heap.size 3 1 v1 (newZ b E).st.length (intV (newZ b E).st) ∧ w'.ownsRow w.heap.size 3 1 v2 (newZ b E).out.length (intV (newZ b E).out) ∧ Ap v1 v2 ∧ Below w.heap.size w w'
theorem made_zerosN (n : Nat) (cs : Array Value) (h : madeCells (Value.int .i64 0).cells (n * 1) = cs) : cs.toList = intV (List.replicate n 0) := by
  subst h
  rw [Nat.mul_one]
  have e := toList_madeCells_one (Value.int .i64 0) n
  unfold intV
  rw [List.map_replicate]
  exact e
theorem head_at (E : List Int) (h : 0 < E.length) : E.headD 0 = E[0] := by
  cases E with
  | nil => simp at h
  | cons x r => rfl
theorem cells3q {w : World} {b T : Nat} {x0 x1 x2 : Value} (h : w.heap[b]? = some (.cells #[x0, x1, x2] T (0, 0))) : w.cell? ⟨b, 0, none⟩ = some x0 ∧ w.cell? ⟨b, 1, none⟩ = some x1 ∧ w.cell? ⟨b, 2, none⟩ = some x2 := ⟨(blk h).1 0 _ rfl, (blk h).1 1 _ rfl, (blk h).1 2 _ rfl⟩
set_option maxRecDepth 100000 in
set_option maxHeartbeats 4000000 in
theorem i_newMachine (I : List ImA) (B E : List Int) (a0 a1 a2 : Option Addr) (c0 c1 c2 : Nat) (w : World) (hI : ReadIms w a0 I) (hB : ReadI w a1 B) (hE : ReadI w a2 E) (hs : SmlI I B E) :
    Calls Try.prog 13 #[.agg #[.slice a0 I.length c0, .slice a1 B.length c1, .slice a2 E.length c2]] w (NmR (spB I B E) E w) := by
  obtain ⟨i0, hi, hz0, hz1, hz2⟩ := info_parts infoIq
  have hmk := fun W => run_make_rowN (P := Try.prog) 22 3 i0 _ 1 8 Try.underlying22 hi hz0 hz1 hz2 .i64 .i64 1200 1200 (Nat.le_refl _) (by omega) (by omega) W
  obtain ⟨cs, hcs⟩ : ∃ cs, madeCells (Value.int .i64 0).cells (1200 * 1) = cs := ⟨_, rfl⟩
  have HCS := Lib.hid (made_zerosN 1200 cs hcs)
  have HCZ : Hid (cs.size = 1200) := Lib.hid (by rw [← hcs, size_madeCells])
  rw [hcs] at hmk
  clear hcs hi hz0 hz1 hz2
  have ec : ((1200 : Nat) : Int) = 1200 := rfl
  simp only [ec] at hmk
  clear ec
  have T2 := Lib.hid (two_new w (.cells #[.slice a0 I.length c0, .slice a1 B.length c1, .slice a2 E.length c2] 39) (.cells #[.int .i64 0, .int .i64 0, .int .i64 0, .slice none 0 0, .slice none 0 0, .int .i64 0, .int .i64 0] 27))
  obtain ⟨W0, hW0⟩ : ∃ W, (w.alloc (.cells #[.slice a0 I.length c0, .slice a1 B.length c1, .slice a2 E.length c2] 39)).alloc (.cells #[.int .i64 0, .int .i64 0, .int .i64 0, .slice none 0 0, .slice none 0 0, .int .i64 0, .int .i64 0] 27) = W := ⟨_, rfl⟩
  rw [hW0] at T2
  have HW0 := Lib.hid hW0
  have HSP := Lib.hid (i_spaceOk I B E a0 a1 a2 c0 c1 c2 W0 (hI.below T2.out.2.2.2) (hB.below T2.out.2.2.2) (hE.below T2.out.2.2.2) hs)
  have HRE := Lib.hid hE
  have HEN : Hid (spB I B E = true → 1 ≤ E.length) := Lib.hid (fun h => by obtain ⟨_, _, _, _, _, _, h, _⟩ := spB_is h; exact h)
  obtain ⟨res, hres⟩ : ∃ x, spB I B E = x := ⟨_, rfl⟩
  rw [hres] at HSP HEN
  rw [hres]
  obtain ⟨n0, hn0⟩ : ∃ x, I.length = x := ⟨_, rfl⟩
  obtain ⟨n1, hn1⟩ : ∃ x, B.length = x := ⟨_, rfl⟩
  obtain ⟨n2, hn2⟩ : ∃ x, E.length = x := ⟨_, rfl⟩
  rw [hn0, hn1, hn2] at T2 HW0 HSP
  rw [hn2] at HEN
  have HN2 := Lib.hid hn2
  rw [hn0, hn1, hn2]
  have HZ0 : Hid (w.heap.size + 2 ≤ W0.heap.size) := Lib.hid (by have := T2.out.2.2.1; omega)
  clear hI hB hE hs hres hW0 hn0 hn1 hn2
  go_enter Try.func13, Try.ntmps13
  go_upto_region 1 with fail
  rw [HW0.out]
  obtain ⟨e0, e1, e2⟩ := cells3q T2.out.1
  go_wp2_with fail
  refine HSP.out.mono ?_
  rintro e w1 ⟨rfl, b1⟩
  have P0 := Lib.hid ((b1.block _ (blk T2.out.1).2.2).trans T2.out.1)
  have P1 := Lib.hid ((b1.block _ (blk T2.out.2.1).2.2).trans T2.out.2.1)
  have HB1 : Hid (Below w.heap.size w w1) := Lib.hid (T2.out.2.2.2.trans (b1.mono (by have := HZ0.out; omega)))
  have HZ1 : Hid (w.heap.size + 2 ≤ w1.heap.size) := Lib.hid (by have := HZ0.out; have := b1.size; omega)
  clear b1 e0 e1 e2 HSP HW0 T2 HZ0
  obtain ⟨⟨j0, j1, j2, j3, j4, j5, j6⟩, gj, lj⟩ := res7 P1.out
  obtain ⟨e0, e1, e2⟩ := cells3q P0.out
  cases res with
  | false =>
    clear hmk
    have X1 := Lib.hid (set7_rowS P1.out (.int .i64 0) (.int .i64 0) (.int .i64 0) (.slice none 0 0) (.slice none 0 0) (.int .i64 0) (.int .i64 0))
    have XB := Lib.hid (set7_belowS (b := w.heap.size + 1) HB1.out (by omega) (.int .i64 0) (.int .i64 0) (.int .i64 0) (.slice none 0 0) (.slice none 0 0) (.int .i64 0) (.int .i64 0))
    obtain ⟨⟨z0, z1, z2, z3, z4, z5, z6⟩, gz, lz⟩ := res7 X1.out
    go_wp2
    refine bodyPost_ret (v := .tuple #[.agg #[.int .i64 0, .int .i64 0, .int .i64 0, .slice none 0 0, .slice none 0 0, .int .i64 0, .int .i64 0], .bool false]) (by simp [results, Try.results13, go_sem, z0, z1, z2, z3, z4, z5, z6]) rfl ⟨.slice none 0 0, .slice none 0 0, rfl, ⟨rfl, .inl ⟨rfl, rfl⟩⟩, ⟨rfl, .inl ⟨rfl, rfl⟩⟩, Ap.none, XB.out⟩
  | true =>
    have hn := HEN.out rfl
    have hel : 0 < E.length := by have := HN2.out; omega
    obtain ⟨g, rfl, hgl, hgc⟩ := (HRE.out.below HB1.out) 0 hel
    have HHD := Lib.hid (head_at E hel)
    obtain ⟨z, hz⟩ : ∃ z, E[0] = z := ⟨_, rfl⟩
    rw [hz] at hgc HHD
    clear hz hel HRE HEN
    have hn0 : 0 < n2 := by omega
    have BA : Hid (Below w1.heap.size w1 (w1.alloc (.cells cs 3))) := Lib.hid ((Below.refl _ _).alloc (Nat.le_refl _) _)
    have P0a := Lib.hid ((BA.out.block _ (blk P0.out).2.2).trans P0.out)
    have P1a := Lib.hid ((BA.out.block _ (blk P1.out).2.2).trans P1.out)
    have hga := (BA.out.cell (p := ⟨g, 0, none⟩) hgl).trans hgc
    obtain ⟨⟨i0, i1, i2, i3, i4, i5, i6⟩, gi, li⟩ := res7 P1a.out
    obtain ⟨f0, f1, f2⟩ := cells3q P0a.out
    go_wp2_with fail
    go_region
    have S1 := Lib.hid (set7_rowS P1.out (.int .i64 z) (.int .i64 1199) (.int .i64 1200) (.slice (some ⟨w1.heap.size, 0, none⟩) 1200 1200) (.slice none 0 0) (.int .i64 0) (.int .i64 0))
    have SB := Lib.hid (set7_belowS (b := w.heap.size + 1) HB1.out (by omega) (.int .i64 z) (.int .i64 1199) (.int .i64 1200) (.slice (some ⟨w1.heap.size, 0, none⟩) 1200 1200) (.slice none 0 0) (.int .i64 0) (.int .i64 0))
    obtain ⟨WS, hWS⟩ : ∃ W, (((((((w1.setCell ⟨w.heap.size + 1, 0, none⟩ (.int .i64 z)).setCell ⟨w.heap.size + 1, 1, none⟩ (.int .i64 1199)).setCell ⟨w.heap.size + 1, 2, none⟩ (.int .i64 1200)).setCell ⟨w.heap.size + 1, 3, none⟩ (.slice (some ⟨w1.heap.size, 0, none⟩) 1200 1200)).setCell ⟨w.heap.size + 1, 4, none⟩ (.slice none 0 0)).setCell ⟨w.heap.size + 1, 5, none⟩ (.int .i64 0)).setCell ⟨w.heap.size + 1, 6, none⟩ (.int .i64 0)) = W := ⟨_, rfl⟩
    have hzs : WS.heap.size = w1.heap.size := by rw [← hWS]; simp [World.setCell]
    rw [hWS] at S1 SB
    rw [hWS]
    clear hWS
    have X1 := Lib.hid ((Below.heap_alloc WS (.cells cs 3) (w.heap.size + 1) (by omega)).trans S1.out)
    have XB : Hid (Below w.heap.size w (WS.alloc (.cells cs 3)).drew) := Lib.hid ((SB.out.alloc (by have := HZ1.out; omega) _).drew)
    have hst : (newZ true E).st = List.replicate 1200 0 := rfl
    have hlen : (newZ true E).st.length = 1200 := by rw [hst, List.length_replicate]
    have XO : Hid ((WS.alloc (.cells cs 3)).ownsRow w.heap.size 3 1 (.slice (some ⟨w1.heap.size, 0, none⟩) 1200 1200) (newZ true E).st.length (intV (newZ true E).st)) := Lib.hid (by
      have h : (WS.alloc (.cells cs 3)).ownsRow w.heap.size 3 1 (.slice (some ⟨WS.heap.size, 0, none⟩) 1200 1200) 1200 cs.toList := World.ownsRow_lit _ _ _ (by have := HZ1.out; omega) (by unfold maxLen; omega) (by rw [HCZ.out])
      rw [hzs] at h
      rw [hlen, hst, ← HCS.out]
      exact h)
    have HV : Hid (mcA (newZ true E) (.slice (some ⟨w1.heap.size, 0, none⟩) 1200 1200) (.slice none 0 0) = .agg #[.int .i64 z, .int .i64 1199, .int .i64 1200, .slice (some ⟨w1.heap.size, 0, none⟩) 1200 1200, .slice none 0 0, .int .i64 0, .int .i64 0]) := Lib.hid (by
      have h : mcA (newZ true E) (.slice (some ⟨w1.heap.size, 0, none⟩) 1200 1200) (.slice none 0 0) = .agg #[.int .i64 (E.headD 0), .int .i64 1199, .int .i64 1200, .slice (some ⟨w1.heap.size, 0, none⟩) 1200 1200, .slice none 0 0, .int .i64 0, .int .i64 0] := rfl
      rw [h, HHD.out])
    clear hst hlen SB S1 j0 j1 j2 j3 j4 j5 j6 gj lj i0 i1 i2 i3 i4 i5 i6 gi li e0 e1 e2 f0 f1 f2 hga hgc hgl
    obtain ⟨⟨z0, z1, z2, z3, z4, z5, z6⟩, gz, lz⟩ := res7 X1.out
    go_wp2
    refine bodyPost_ret (v := .tuple #[.agg #[.int .i64 z, .int .i64 1199, .int .i64 1200, .slice (some ⟨w1.heap.size, 0, none⟩) 1200 1200, .slice none 0 0, .int .i64 0, .int .i64 0], .bool true]) (by simp [results, Try.results13, go_sem, z0, z1, z2, z3, z4, z5, z6]) rfl ⟨.slice (some ⟨w1.heap.size, 0, none⟩) 1200 1200, .slice none 0 0, by rw [HV.out], XO.out, ⟨rfl, .inl ⟨rfl, rfl⟩⟩, Ap.none.symm, XB.out⟩
set_option maxRecDepth 100000 in
set_option maxHeartbeats 4000000 in
theorem s_newMachine (I : List ImA) (B E : List Int) (a0 a1 a2 : Option Addr) (c0 c1 c2 : Nat) (w : World) (hI : ReadIms w a0 I) (hB : ReadI w a1 B) (hE : ReadI w a2 E) (hs : SmlI I B E) :
    Calls Try.prog 11 #[.agg #[.slice a0 I.length c0, .slice a1 B.length c1, .slice a2 E.length c2]] w (NmR (spB I B E) E w) := by
  obtain ⟨i0, hi, hz0, hz1, hz2⟩ := info_parts infoIq
  have hmk := fun W => run_make_rowN (P := Try.prog) 22 3 i0 _ 1 8 Try.underlying22 hi hz0 hz1 hz2 .i64 .i64 1200 1200 (Nat.le_refl _) (by omega) (by omega) W
  obtain ⟨cs, hcs⟩ : ∃ cs, madeCells (Value.int .i64 0).cells (1200 * 1) = cs := ⟨_, rfl⟩
  have HCS := Lib.hid (made_zerosN 1200 cs hcs)
  have HCZ : Hid (cs.size = 1200) := Lib.hid (by rw [← hcs, size_madeCells])
  rw [hcs] at hmk
  clear hcs hi hz0 hz1 hz2
  have ec : ((1200 : Nat) : Int) = 1200 := rfl
  simp only [ec] at hmk
  clear ec
  have T2 := Lib.hid (two_new w (.cells #[.slice a0 I.length c0, .slice a1 B.length c1, .slice a2 E.length c2] 39) (.cells #[.int .i64 0, .int .i64 0, .int .i64 0, .slice none 0 0, .slice none 0 0, .int .i64 0, .int .i64 0] 27))
  obtain ⟨W0, hW0⟩ : ∃ W, (w.alloc (.cells #[.slice a0 I.length c0, .slice a1 B.length c1, .slice a2 E.length c2] 39)).alloc (.cells #[.int .i64 0, .int .i64 0, .int .i64 0, .slice none 0 0, .slice none 0 0, .int .i64 0, .int .i64 0] 27) = W := ⟨_, rfl⟩
  rw [hW0] at T2
  have HW0 := Lib.hid hW0
  have HSP := Lib.hid (s_spaceOk I B E a0 a1 a2 c0 c1 c2 W0 (hI.below T2.out.2.2.2) (hB.below T2.out.2.2.2) (hE.below T2.out.2.2.2) hs)
  have HRE := Lib.hid hE
  have HEN : Hid (spB I B E = true → 1 ≤ E.length) := Lib.hid (fun h => by obtain ⟨_, _, _, _, _, _, h, _⟩ := spB_is h; exact h)
  obtain ⟨res, hres⟩ : ∃ x, spB I B E = x := ⟨_, rfl⟩
  rw [hres] at HSP HEN
  rw [hres]
  obtain ⟨n0, hn0⟩ : ∃ x, I.length = x := ⟨_, rfl⟩
  obtain ⟨n1, hn1⟩ : ∃ x, B.length = x := ⟨_, rfl⟩
  obtain ⟨n2, hn2⟩ : ∃ x, E.length = x := ⟨_, rfl⟩
  rw [hn0, hn1, hn2] at T2 HW0 HSP
  rw [hn2] at HEN
  have HN2 := Lib.hid hn2
  rw [hn0, hn1, hn2]
  have HZ0 : Hid (w.heap.size + 2 ≤ W0.heap.size) := Lib.hid (by have := T2.out.2.2.1; omega)
  clear hI hB hE hs hres hW0 hn0 hn1 hn2
  go_enter Try.func11, Try.ntmps11
  go_upto_region 1 with fail
  rw [HW0.out]
  obtain ⟨e0, e1, e2⟩ := cells3q T2.out.1
  go_wp2_with fail
  refine HSP.out.mono ?_
  rintro e w1 ⟨rfl, b1⟩
  have P0 := Lib.hid ((b1.block _ (blk T2.out.1).2.2).trans T2.out.1)
  have P1 := Lib.hid ((b1.block _ (blk T2.out.2.1).2.2).trans T2.out.2.1)
  have HB1 : Hid (Below w.heap.size w w1) := Lib.hid (T2.out.2.2.2.trans (b1.mono (by have := HZ0.out; omega)))
  have HZ1 : Hid (w.heap.size + 2 ≤ w1.heap.size) := Lib.hid (by have := HZ0.out; have := b1.size; omega)
  clear b1 e0 e1 e2 HSP HW0 T2 HZ0
  obtain ⟨⟨j0, j1, j2, j3, j4, j5, j6⟩, gj, lj⟩ := res7 P1.out
  obtain ⟨e0, e1, e2⟩ := cells3q P0.out
  cases res with
  | false =>
    clear hmk
    have X1 := Lib.hid (set7_rowS P1.out (.int .i64 0) (.int .i64 0) (.int .i64 0) (.slice none 0 0) (.slice none 0 0) (.int .i64 0) (.int .i64 0))
    have XB := Lib.hid (set7_belowS (b := w.heap.size + 1) HB1.out (by omega) (.int .i64 0) (.int .i64 0) (.int .i64 0) (.slice none 0 0) (.slice none 0 0) (.int .i64 0) (.int .i64 0))
    obtain ⟨⟨z0, z1, z2, z3, z4, z5, z6⟩, gz, lz⟩ := res7 X1.out
    go_wp2
    refine bodyPost_ret (v := .tuple #[.agg #[.int .i64 0, .int .i64 0, .int .i64 0, .slice none 0 0, .slice none 0 0, .int .i64 0, .int .i64 0], .bool false]) (by simp [results, Try.results11, go_sem, z0, z1, z2, z3, z4, z5, z6]) rfl ⟨.slice none 0 0, .slice none 0 0, rfl, ⟨rfl, .inl ⟨rfl, rfl⟩⟩, ⟨rfl, .inl ⟨rfl, rfl⟩⟩, Ap.none, XB.out⟩
  | true =>
    have hn := HEN.out rfl
    have hel : 0 < E.length := by have := HN2.out; omega
    obtain ⟨g, rfl, hgl, hgc⟩ := (HRE.out.below HB1.out) 0 hel
    have HHD := Lib.hid (head_at E hel)
    obtain ⟨z, hz⟩ : ∃ z, E[0] = z := ⟨_, rfl⟩
    rw [hz] at hgc HHD
    clear hz hel HRE HEN
    have hn0 : 0 < n2 := by omega
    have BA : Hid (Below w1.heap.size w1 (w1.alloc (.cells cs 3))) := Lib.hid ((Below.refl _ _).alloc (Nat.le_refl _) _)
    have P0a := Lib.hid ((BA.out.block _ (blk P0.out).2.2).trans P0.out)
    have P1a := Lib.hid ((BA.out.block _ (blk P1.out).2.2).trans P1.out)
    have hga := (BA.out.cell (p := ⟨g, 0, none⟩) hgl).trans hgc
    obtain ⟨⟨i0, i1, i2, i3, i4, i5, i6⟩, gi, li⟩ := res7 P1a.out
    obtain ⟨f0, f1, f2⟩ := cells3q P0a.out
    go_wp2_with fail
    go_region
    have S1 := Lib.hid (set7_rowS P1.out (.int .i64 z) (.int .i64 1199) (.int .i64 1200) (.slice (some ⟨w1.heap.size, 0, none⟩) 1200 1200) (.slice none 0 0) (.int .i64 0) (.int .i64 0))
    have SB := Lib.hid (set7_belowS (b := w.heap.size + 1) HB1.out (by omega) (.int .i64 z) (.int .i64 1199) (.int .i64 1200) (.slice (some ⟨w1.heap.size, 0, none⟩) 1200 1200) (.slice none 0 0) (.int .i64 0) (.int .i64 0))
    obtain ⟨WS, hWS⟩ : ∃ W, (((((((w1.setCell ⟨w.heap.size + 1, 0, none⟩ (.int .i64 z)).setCell ⟨w.heap.size + 1, 1, none⟩ (.int .i64 1199)).setCell ⟨w.heap.size + 1, 2, none⟩ (.int .i64 1200)).setCell ⟨w.heap.size + 1, 3, none⟩ (.slice (some ⟨w1.heap.size, 0, none⟩) 1200 1200)).setCell ⟨w.heap.size + 1, 4, none⟩ (.slice none 0 0)).setCell ⟨w.heap.size + 1, 5, none⟩ (.int .i64 0)).setCell ⟨w.heap.size + 1, 6, none⟩ (.int .i64 0)) = W := ⟨_, rfl⟩
    have hzs : WS.heap.size = w1.heap.size := by rw [← hWS]; simp [World.setCell]
    rw [hWS] at S1 SB
    rw [hWS]
    clear hWS
    have X1 := Lib.hid ((Below.heap_alloc WS (.cells cs 3) (w.heap.size + 1) (by omega)).trans S1.out)
    have XB : Hid (Below w.heap.size w (WS.alloc (.cells cs 3)).drew) := Lib.hid ((SB.out.alloc (by have := HZ1.out; omega) _).drew)
    have hst : (newZ true E).st = List.replicate 1200 0 := rfl
    have hlen : (newZ true E).st.length = 1200 := by rw [hst, List.length_replicate]
    have XO : Hid ((WS.alloc (.cells cs 3)).ownsRow w.heap.size 3 1 (.slice (some ⟨w1.heap.size, 0, none⟩) 1200 1200) (newZ true E).st.length (intV (newZ true E).st)) := Lib.hid (by
      have h : (WS.alloc (.cells cs 3)).ownsRow w.heap.size 3 1 (.slice (some ⟨WS.heap.size, 0, none⟩) 1200 1200) 1200 cs.toList := World.ownsRow_lit _ _ _ (by have := HZ1.out; omega) (by unfold maxLen; omega) (by rw [HCZ.out])
      rw [hzs] at h
      rw [hlen, hst, ← HCS.out]
      exact h)
    have HV : Hid (mcA (newZ true E) (.slice (some ⟨w1.heap.size, 0, none⟩) 1200 1200) (.slice none 0 0) = .agg #[.int .i64 z, .int .i64 1199, .int .i64 1200, .slice (some ⟨w1.heap.size, 0, none⟩) 1200 1200, .slice none 0 0, .int .i64 0, .int .i64 0]) := Lib.hid (by
      have h : mcA (newZ true E) (.slice (some ⟨w1.heap.size, 0, none⟩) 1200 1200) (.slice none 0 0) = .agg #[.int .i64 (E.headD 0), .int .i64 1199, .int .i64 1200, .slice (some ⟨w1.heap.size, 0, none⟩) 1200 1200, .slice none 0 0, .int .i64 0, .int .i64 0] := rfl
      rw [h, HHD.out])
    clear hst hlen SB S1 j0 j1 j2 j3 j4 j5 j6 gj lj i0 i1 i2 i3 i4 i5 i6 gi li e0 e1 e2 f0 f1 f2 hga hgc hgl
    obtain ⟨⟨z0, z1, z2, z3, z4, z5, z6⟩, gz, lz⟩ := res7 X1.out
    go_wp2
    refine bodyPost_ret (v := .tuple #[.agg #[.int .i64 z, .int .i64 1199, .int .i64 1200, .slice (some ⟨w1.heap.size, 0, none⟩) 1200 1200, .slice none 0 0, .int .i64 0, .int .i64 0], .bool true]) (by simp [results, Try.results11, go_sem, z0, z1, z2, z3, z4, z5, z6]) rfl ⟨.slice (some ⟨w1.heap.size, 0, none⟩) 1200 1200, .slice none 0 0, by rw [HV.out], XO.out, ⟨rfl, .inl ⟨rfl, rfl⟩⟩, Ap.none.symm, XB.out⟩
end Go.Proofs.Ytljmkkodhnkemaa
