/- Plain facts: The laws' own functions on images: the size, the program's image made of the argument, equality; The laws' own functions on rows of images: the size, the program's row made of it, equality. Nothing of the program. -/
import Derived.Test.YtljmkkodhnkemaaSymW
import Derived.Test.YtljmkkodhnkemaaPlainC
import Derived.Test.YtljmkkodhnkemaaImsPlain
import Derived.Test.YtljmkkodhnkemaaMakeRowN
import Derived.Deep.RegionHeld3
/-! The laws' own functions on images: the size, the program's image made of the argument, equality -/
namespace Go.Proofs.Ytljmkkodhnkemaa
open Go.RowKit Go.Lib

theorem cells2 {w : World} {b : Nat} {x0 x1 : Value} {t : TypeId} (h : w.heap[b]? = some (.cells #[x0, x1] t (0, 0))) : w.cell? ⟨b, 0, none⟩ = some x0 ∧ w.cell? ⟨b, 1, none⟩ = some x1 := ⟨(blk h).1 0 _ rfl, (blk h).1 1 _ rfl⟩
theorem keep2 {w w' : World} {b : Nat} {x0 x1 : Value} (hb : Below w.heap.size w w') (hlt : b < w.heap.size) (h : w.cell? ⟨b, 0, none⟩ = some x0 ∧ w.cell? ⟨b, 1, none⟩ = some x1) : w'.cell? ⟨b, 0, none⟩ = some x0 ∧ w'.cell? ⟨b, 1, none⟩ = some x1 :=
  ⟨(hb.cell (p := ⟨b, 0, none⟩) hlt).trans h.1, (hb.cell (p := ⟨b, 1, none⟩) hlt).trans h.2⟩
/-- The measure of an image: -1, or all is small. -/
def SzImg (c : ByteArray) (l : List SyL) (left : Int) (w : World) (e : Ending) (w' : World) : Prop :=
  ∃ r : Int, e = .returned (.int .i64 r) ∧ Below w.heap.size w w' ∧ (r = -1 ∨ (0 ≤ r ∧ (c.size : Int) + ((l.length : Int) + (sumSy l : Int)) ≤ left))
set_option maxRecDepth 100000 in
set_option maxHeartbeats 1000000 in
theorem l_szImage (c : ByteArray) (a : Option Addr) (cap : Nat) (l : List SyL) (left : Int) (w : World) (hc : c.size ≤ maxLen) (hm : l.length ≤ maxLen) (ha : ArgSy w a l) (h0 : 0 ≤ left) (h1 : left ≤ 1048576) :
    Calls Try.prog 30 #[.agg #[.string c, .slice a l.length cap], .int .i64 left] w (SzImg c l left w) := by
  have HA := Lib.hid ha
  have HM := Lib.hid hm
  clear ha hm
  unfold maxLen at hc
  by_cases hbig : left < (c.size : Int)
  · have hd : decide (left - (c.size : Int) < 0) = true := by simp; omega
    go_enter Try.func30, Try.ntmps30
    go_wp2
    go_ret
    exact ⟨-1, rfl, (Below.refl _ _).alloc (Nat.le_refl _) _, .inl rfl⟩
  have hd : decide (left - (c.size : Int) < 0) = false := by simp; omega
  obtain ⟨r0, hr0⟩ : ∃ r : Int, left - (c.size : Int) = r := ⟨_, rfl⟩
  have q0 : 0 ≤ r0 := by omega
  have q1 : r0 ≤ 1048576 := by omega
  have HR0 : Hid (r0 + (c.size : Int) = left) := Lib.hid (by omega)
  rw [hr0] at hd
  have HAb := Lib.hid (HA.out.below ((Below.refl w.heap.size w).alloc (Nat.le_refl _) (.cells #[.string c, .slice a l.length cap] 57)))
  go_enter Try.func30, Try.ntmps30
  go_wp2_with fail
  clear hr0
  refine (l_szSymbolS a cap l r0 _ HM.out HAb.out q0 q1).mono ?_
  rintro e w2 ⟨r2, rfl, b2, hr2⟩
  have HB2 := Lib.hid b2
  clear b2
  rcases hr2 with rfl | ⟨s0, s1⟩
  · go_wp2
    go_ret
    exact ⟨-1, rfl, ((Below.refl _ _).alloc (Nat.le_refl _) _).trans (HB2.out.mono (by simp)), .inl rfl⟩
  have hd2 : decide (r2 < 0) = false := by simp; omega
  go_wp2
  go_ret
  exact ⟨r2, rfl, ((Below.refl _ _).alloc (Nat.le_refl _) _).trans (HB2.out.mono (by simp)), .inr ⟨s0, by have := HR0.out; omega⟩⟩

/-- An image that a call has made. -/
def ImgRes (T B : Nat) (c : ByteArray) (l : List SyL) (w : World) (e : Ending) (w' : World) : Prop :=
  ∃ v, e = .returned (.agg #[.string c, v]) ∧ w'.ownsRow B T 3 v l.length (sysV l) ∧ Below w.heap.size w w'
set_option maxRecDepth 100000 in
set_option maxHeartbeats 1000000 in
theorem l_toImage (c : ByteArray) (a : Option Addr) (cap : Nat) (l : List SyL) (w : World) (hl : l.length ≤ 1048576) (ha : ArgSy w a l) :
    Calls Try.prog 34 #[.agg #[.string c, .slice a l.length cap]] w (ImgRes 66 w.heap.size c l w) := by
  have HA := Lib.hid ha
  clear ha
  have T3 := Lib.hid (three_new w (.cells #[.string c, .slice a l.length cap] 57) (.cells #[.string ⟨#[]⟩, .slice none 0 0] 61) (.cells #[.string c, .slice none 0 0] 61))
  go_enter Try.func34, Try.ntmps34
  go_wp2_with fail
  refine (l_toSymbolS a cap l _ hl (HA.out.below T3.out.2.2.2.2)).mono ?_
  rintro e w1 ⟨va, rfl, O1, b1⟩
  obtain ⟨av, cv, rfl⟩ := owns3_shape O1
  obtain ⟨t0, t1, t2, tz, tb⟩ := T3.out
  rw [tz] at O1 b1
  have p1 := (b1.block _ (by omega)).trans t1
  have p2 := (b1.block _ (by omega)).trans t2
  have z1 := b1.size
  rw [tz] at z1
  have HB1 : Hid (Below w.heap.size w w1) := Lib.hid (tb.trans (b1.mono (by omega)))
  have HO1 := Lib.hid O1
  have c20 : w1.cell? ⟨w.heap.size + 1 + 1, 0, none⟩ = some (.string c) := (blk p2).1 0 _ rfl
  have c21 : w1.cell? ⟨w.heap.size + 1 + 1, 1, none⟩ = some (.slice none 0 0) := (blk p2).1 1 _ rfl
  have g2 := (blk p2).2.1 1
  have d0 : w1.cell? ⟨w.heap.size + 1, 0, none⟩ = some (.string ⟨#[]⟩) := (blk p1).1 0 _ rfl
  have d1 : w1.cell? ⟨w.heap.size + 1, 1, none⟩ = some (.slice none 0 0) := (blk p1).1 1 _ rfl
  have g10 := (blk p1).2.1 0
  have g11 := (blk p1).2.1 1
  have m2 := (blk p2).2.2
  have m1 := (blk p1).2.2
  clear t0 t1 t2 tz tb p1 p2 O1 b1
  go_wp2
  refine bodyPost_ret (v := .agg #[.string c, .slice av l.length cv]) (by simp [results, Try.results34, go_sem, d0, d1, m1, m2, c20, c21]) rfl ⟨.slice av l.length cv, rfl, ?_, ?_⟩
  · exact owns_lo (owns_set (owns_set (owns_set HO1.out (by omega)) (by omega)) (by omega)) (by omega)
  · exact ((HB1.out.setCell (by simp; omega) _).setCell (by simp) _).setCell (by simp) _

set_option maxRecDepth 100000 in
set_option maxHeartbeats 1000000 in
theorem l_eqImage (c : ByteArray) (l : List SyL) (a1 a2 : Option Addr) (c1 c2 : Nat) (w : World) (h1 : ReadSy w a1 l) (h2 : ReadSy w a2 l) (hl : l.length ≤ 1048576) :
    Calls Try.prog 41 #[.agg #[.string c, .slice a1 l.length c1], .agg #[.string c, .slice a2 l.length c2]] w fun e w' => e = .returned (.bool true) ∧ Below w.heap.size w w' := by
  have H1 := Lib.hid h1
  have H2 := Lib.hid h2
  clear h1 h2
  have T := Lib.hid (two_new w (.cells #[.string c, .slice a1 l.length c1] 61) (.cells #[.string c, .slice a2 l.length c2] 61))
  go_enter Try.func41, Try.ntmps41
  go_wp2_with fail
  refine (l_eqSymbolS a1 a2 c1 c2 l _ (H1.out.below T.out.2.2.2) (H2.out.below T.out.2.2.2) (by omega)).mono ?_
  rintro e w1 ⟨rfl, q1⟩
  have HB1 : Hid (Below w.heap.size w w1) := Lib.hid (T.out.2.2.2.trans (q1.mono (by have := T.out.2.2.1; omega)))
  clear q1
  go_wp2
  go_ret
  exact ⟨rfl, HB1.out⟩
end Go.Proofs.Ytljmkkodhnkemaa

/-! The laws' own functions on rows of images: the size, the program's row made of it, equality -/
namespace Go.Proofs.Ytljmkkodhnkemaa
open Go.RowKit Go.Lib

/-- The measure of a row of images: -1, or all is small. -/
def SzIms (l : List ImA) (left : Int) (w : World) (e : Ending) (w' : World) : Prop :=
  ∃ r : Int, e = .returned (.int .i64 r) ∧ Below w.heap.size w w' ∧ (r = -1 ∨ (0 ≤ r ∧ r ≤ left ∧ (l.length : Int) ≤ left ∧ ∀ x ∈ l, SmallI x))
theorem smallI_next (l : List ImA) (k : Nat) (hk : k < l.length) (h : ∀ x ∈ l.take k, SmallI x) (hx : SmallI l[k]) : ∀ x ∈ l.take (k + 1), SmallI x := by
  intro x hx'
  rw [List.take_succ_eq_append_getElem hk] at hx'
  rcases List.mem_append.1 hx' with h' | h'
  · exact h x h'
  · rw [List.mem_singleton] at h'; rw [h']; exact hx

set_option maxRecDepth 100000 in
set_option maxHeartbeats 1000000 in
theorem l_szImage2 (x : ImA) (left : Int) (w : World) (ha : ArgIm w x) (h0 : 0 ≤ left) (h1 : left ≤ 1048576) :
    Calls Try.prog 30 #[.agg #[.string x.s, .slice x.a x.l.length x.c], .int .i64 left] w fun e w' => ∃ r : Int, e = .returned (.int .i64 r) ∧ Below w.heap.size w w' ∧ (r = -1 ∨ (0 ≤ r ∧ r ≤ left ∧ SmallI x)) := by
  have HA := Lib.hid ha.1
  have HM := Lib.hid ha.2.1
  have hc := ha.2.2
  clear ha
  obtain ⟨c, l, a, cap⟩ := x
  dsimp only at HA HM hc ⊢
  unfold maxLen at hc
  by_cases hbig : left < (c.size : Int)
  · have hd : decide (left - (c.size : Int) < 0) = true := by simp; omega
    go_enter Try.func30, Try.ntmps30
    go_wp2
    go_ret
    exact ⟨-1, rfl, (Below.refl _ _).alloc (Nat.le_refl _) _, .inl rfl⟩
  have hd : decide (left - (c.size : Int) < 0) = false := by simp; omega
  obtain ⟨r0, hr0⟩ : ∃ r : Int, left - (c.size : Int) = r := ⟨_, rfl⟩
  have q0 : 0 ≤ r0 := by omega
  have q1 : r0 ≤ 1048576 := by omega
  have HR0 : Hid (r0 + (c.size : Int) = left) := Lib.hid (by omega)
  rw [hr0] at hd
  have HAb := Lib.hid (HA.out.below ((Below.refl w.heap.size w).alloc (Nat.le_refl _) (.cells #[.string c, .slice a l.length cap] 57)))
  go_enter Try.func30, Try.ntmps30
  go_wp2_with fail
  clear hr0
  refine (l_szSymbolS a cap l r0 _ HM.out HAb.out q0 q1).mono ?_
  rintro e w2 ⟨r2, rfl, b2, hr2⟩
  have HB2 := Lib.hid b2
  clear b2
  rcases hr2 with rfl | ⟨s0, s1⟩
  · go_wp2
    go_ret
    exact ⟨-1, rfl, ((Below.refl _ _).alloc (Nat.le_refl _) _).trans (HB2.out.mono (by simp)), .inl rfl⟩
  have hd2 : decide (r2 < 0) = false := by simp; omega
  go_wp2
  go_ret
  exact ⟨r2, rfl, ((Below.refl _ _).alloc (Nat.le_refl _) _).trans (HB2.out.mono (by simp)), .inr ⟨s0, by have := HR0.out; omega, ⟨by have := HR0.out; dsimp only; omega, by have := HR0.out; dsimp only; omega, fun y hy => by have := sumSy_mem l y hy; have := HR0.out; omega⟩⟩⟩

set_option maxRecDepth 100000 in
set_option maxHeartbeats 1000000 in
theorem l_szImageS (a : Option Addr) (cap : Nat) (l : List ImA) (left : Int) (w : World) (hm : l.length ≤ maxLen) (ha : ArgIms w a l) (h0 : 0 ≤ left) (h1 : left ≤ 1048576) :
    Calls Try.prog 22 #[.slice a l.length cap, .int .i64 left] w (SzIms l left w) := by
  have HA := Lib.hid ha
  clear ha
  unfold maxLen at hm
  by_cases hbig : left < (l.length : Int)
  · have hd : decide (left - (l.length : Int) < 0) = true := by simp; omega
    go_enter Try.func22, Try.ntmps22
    go_wp2
    all_goals go_ret
    all_goals exact ⟨-1, rfl, Below.refl _ _, .inl rfl⟩
  have hd : decide (left - (l.length : Int) < 0) = false := by simp; omega
  have g0 : 0 ≤ left - (l.length : Int) := by omega
  go_enter Try.func22, Try.ntmps22
  go_wp2_with fail
  clear hd
  go_loopw [1, 5] (fun x i wr => ∃ (k : Nat) (r : Int), k ≤ l.length ∧ i = .int .i64 (k : Int) ∧ x = .int .i64 r ∧ 0 ≤ r ∧ r ≤ left ∧ Hid (∀ x ∈ l.take k, SmallI x) ∧ Below w.heap.size w wr) (fun _ i _ => l.length - (RowKit.intOf i).toNat)
  case atStart => exact ⟨0, left - (l.length : Int), Nat.zero_le _, rfl, rfl, g0, by omega, Lib.hid (fun x hx => by simp at hx), Below.refl _ _⟩
  case round =>
    obtain ⟨k, r, hk, rfl, rfl, r0, r1, HS, hbel⟩ := hrel
    have HB := Lib.hid hbel
    have hB := hbel.size
    by_cases hlt : k < l.length
    · obtain ⟨x, rfl, hx, c0, c1, hln⟩ := (HA.out.below hbel) k hlt
      have NX := Lib.hid (smallI_next l k hlt HS.out)
      obtain ⟨y, hy⟩ : ∃ y, l[k] = y := ⟨_, rfl⟩
      rw [hy] at c0 c1 hln NX
      have HZ := Lib.hid (l_szImage2 y r _ hln r0 (by omega))
      obtain ⟨ys, yl, ya, yc⟩ := y
      dsimp only at c0 c1 HZ
      have k0 : (0 : Int) ≤ (k : Int) := by omega
      have k1 : (k : Int) < (l.length : Int) := by omega
      clear hy hln hbel
      go_wp2_with fail
      refine HZ.out.mono ?_
      rintro e w1 ⟨r', rfl, b1, hr⟩
      have HB1 : Hid (Below w.heap.size w w1) := Lib.hid (HB.out.trans (b1.mono hB))
      clear b1 c0 c1
      rcases hr with rfl | ⟨p0, p1, p2⟩
      · go_wp2
        go_ret
        exact ⟨-1, rfl, HB1.out, .inl rfl⟩
      · have HN := Lib.hid (NX.out p2)
        have hd : decide (r' < 0) = false := by simp; omega
        clear p2 NX
        go_wp2
        go_roundw
        case rel => exact ⟨k + 1, r', by omega, by go_num, rfl, p0, by omega, HN, HB1.out⟩
        case measure => simp [RowKit.intOf]; omega
    · have HN : Hid (∀ x ∈ l, SmallI x) := Lib.hid (by have h := HS.out; rwa [List.take_of_length_le (by omega)] at h)
      go_wp2
      go_ret
      exact ⟨r, rfl, HB.out, .inr ⟨r0, r1, by omega, HN.out⟩⟩

/-- A row of images was returned, in a row of its own from block B on. -/
def ImsRes (TL TS B : Nat) (ps : List (ByteArray × List SyL)) (w : World) (e : Ending) (w' : World) : Prop :=
  ∃ v X, e = .returned v ∧ w'.ownsRow B TL 2 v X.length (imsV X) ∧ MadeG TS B w' X ∧ psI X = ps ∧ Below w.heap.size w w'
theorem infoIm : (Try.prog.info? 61).map (fun i => (i.zero, i.size, i.bytes)) = some (some (.agg #[.string ⟨#[]⟩, .slice none 0 0]), 2, 40) := by kernel_rfl
theorem row_blockI {B T n s g o c : Nat} {w : World} {xs : List Value} (h : w.ownsRow B T s (.slice (some ⟨g, o, none⟩) n c) n xs) : ∃ cur, w.heap[g]? = some (.cells cur T (0, 0)) := by
  rcases h.2 with ⟨e, _⟩ | ⟨g', cap, cur, e, _, hg, _⟩
  · injection e with e; cases e
  · injection e with e
    injection e with e
    injection e with e
    subst e
    exact ⟨cur, hg⟩
set_option maxRecDepth 100000 in
set_option maxHeartbeats 2000000 in
theorem l_toImageS (a : Option Addr) (cap : Nat) (l : List ImA) (w : World) (hl : l.length ≤ 1048576) (ha : ArgIms w a l) (hs : ∀ x ∈ l, SmallI x) :
    Calls Try.prog 24 #[.slice a l.length cap] w (ImsRes 61 66 w.heap.size (psI l) w) := by
  have HA := Lib.hid ha
  have HSM := Lib.hid hs
  clear ha hs
  obtain ⟨i0, hi, hz0, hz1, hz2⟩ := info_parts infoIm
  have hmk := fun W => run_make_rowN (P := Try.prog) 37 61 i0 _ 2 40 Try.underlying37 hi hz0 hz1 hz2 .i64 .i64 l.length l.length (Nat.le_refl _) (by omega) (by omega) W
  obtain ⟨cs, hcs⟩ : ∃ cs, madeCells (Value.agg #[.string ⟨#[]⟩, .slice none 0 0]).cells (l.length * 2) = cs := ⟨_, rfl⟩
  have hcsz : cs.size = l.length * 2 := by rw [← hcs, size_madeCells]
  rw [hcs] at hmk
  clear hcs hi hz0 hz1 hz2
  have HZ := Lib.hid hcsz
  clear hcsz
  go_enter Try.func24, Try.ntmps24
  go_wp2_with fail
  clear hmk
  go_loopw [4] (fun i wr => ∃ (k : Nat) (X : List ImA) (R : List Value), k ≤ l.length ∧ i = .int .i64 (k : Int) ∧ R.length = (l.length - k) * 2 ∧ X.length = k ∧ Hid (psI X = psI (l.take k)) ∧ MadeG 66 w.heap.size wr X ∧ wr.ownsRow w.heap.size 61 2 (.slice (some ⟨w.heap.size, 0, none⟩) l.length l.length) l.length (imsV X ++ R) ∧ Below w.heap.size w wr) (fun i _ => l.length - (RowKit.intOf i).toNat)
  case atStart => exact ⟨0, [], cs.toList, Nat.zero_le _, rfl, by simpa using HZ.out, rfl, Lib.hid rfl, MadeG.nil _ _ _, World.ownsRow_lit _ _ _ (Nat.le_refl _) (by unfold maxLen; omega) HZ.out, (Below.refl _ _).alloc (Nat.le_refl _) _⟩
  case round =>
    obtain ⟨k, X, R, hk, rfl, hR, hX, HP, hall, hown, hbel⟩ := hrel
    have HO := Lib.hid hown
    have HB := Lib.hid hbel
    have HAL := Lib.hid hall
    have hB := hbel.size
    have hgl : w.heap.size < wr.heap.size := (hown.lt w.heap.size rfl).2
    clear hown hall
    by_cases hlt : k < l.length
    · obtain ⟨x, rfl, hx, c0, c1, hln⟩ := (HA.out.below hbel) k hlt
      have hsm := HSM.out _ (List.getElem_mem hlt)
      have PN := Lib.hid (psI_next l k hlt)
      obtain ⟨y, hy⟩ : ∃ y, l[k] = y := ⟨_, rfl⟩
      rw [hy] at c0 c1 hln hsm PN
      obtain ⟨y0, y1, R', hRe, hR'⟩ := twoV R (l.length - (k + 1)) (by rw [hR]; congr 1; omega)
      subst hRe
      have HR' := Lib.hid hR'
      have HC := Lib.hid (l_toImage y.s y.a y.c y.l wr hsm.2.1 hln.1)
      obtain ⟨ys, yl, ya, yc⟩ := y
      dsimp only at c0 c1 HC PN
      have HS := Lib.hid (fun va vc => imsV_set X k hX ⟨ys, yl, va, vc⟩ y0 y1 R')
      have HXL := Lib.hid hX
      have k0 : (0 : Int) ≤ (k : Int) := by omega
      have k1 : (k : Int) < (l.length : Int) := by omega
      clear hy hsm hln hR hR' hbel hX
      go_wp2_with fail
      refine HC.out.mono ?_
      rintro e w1 ⟨va, rfl, O1, b1⟩
      obtain ⟨av, cv, rfl⟩ := owns3_shape O1
      have HO1 := Lib.hid (owns3_below HO.out b1)
      have HB1 := Lib.hid (HB.out.trans (b1.mono hB))
      have hs1 := b1.size
      have HAL1 : Hid (MadeG 66 w.heap.size w1 (X ++ [⟨ys, yl, av, cv⟩])) := Lib.hid ((HAL.out.below b1).snoc (owns_lo O1 hB))
      have HSS := Lib.hid (HS.out av cv)
      clear b1 c0 c1 O1
      have hlen : (imsV X ++ y0 :: y1 :: R').length = l.length * 2 := HO1.out.1
      have cellk : ∀ i, i < 2 → ∃ y, w1.cell? ⟨w.heap.size, k * 2 + i, none⟩ = some y := fun i hi => by
        have := HO1.out.cellAt (k * 2 + i) (by omega)
        rw [this]
        exact ⟨_, List.getElem?_eq_getElem (by omega)⟩
      obtain ⟨z0, e0⟩ := cellk 0 (by omega)
      rw [Nat.add_zero] at e0
      obtain ⟨z1, e1⟩ := cellk 1 (by omega)
      have fr := HO1.out.frozenAt
      have S1 := HO1.out.stored (k * 2) (.string ys)
      have S2 := S1.1.stored (k * 2 + 1) (.slice av yl.length cv)
      have HO2 := Lib.hid (HSS.out ▸ S2.1)
      have HG := Lib.hid (S1.2.trans S2.2)
      have HB2 := Lib.hid (HB1.out.grown HG.out (by omega) (fun j hj => by injection hj with e; omega))
      clear cellk hlen S1 S2
      go_wp2
      go_roundw
      case rel =>
        refine ⟨k + 1, X ++ [⟨ys, yl, av, cv⟩], R', by omega, by go_num, HR'.out, by rw [List.length_append, HXL.out]; rfl, Lib.hid ?_, ?_, HO2.out, HB2.out⟩
        · rw [PN.out, ← HP.out]; simp [psI]
        · exact MadeG.grown (TL := 61) HAL1.out HG.out (row_blockI HO1.out) (by decide)
      case measure => simp [RowKit.intOf]; omega
    · have hkk : k = l.length := by omega
      subst hkk
      have hR0 : R = [] := List.length_eq_zero_iff.1 (by rw [hR]; simp)
      subst hR0
      have HPF : Hid (psI X = psI l) := Lib.hid (by have h := HP.out; rwa [List.take_of_length_le (Nat.le_refl _)] at h)
      have HOF : Hid (wr.ownsRow w.heap.size 61 2 (.slice (some ⟨w.heap.size, 0, none⟩) l.length l.length) X.length (imsV X)) := Lib.hid (by have h := HO.out; rw [List.append_nil] at h; rw [hX]; exact h)
      clear hX hR HO hlt
      go_wp2
      go_ret
      exact ⟨_, X, rfl, HOF.out, HAL.out, HPF.out, HB.out⟩

theorem psI_at {X Y : List ImA} (h : psI X = psI Y) (j : Nat) (hx : j < X.length) : ∃ hy : j < Y.length, X[j].s = Y[j].s ∧ X[j].l = Y[j].l := by
  have hl : X.length = Y.length := by have := congrArg List.length h; rwa [psI_len, psI_len] at this
  have hy : j < Y.length := by omega
  refine ⟨hy, ?_⟩
  have h1 := psI_get X j hx
  rw [h, psI_get Y j hy] at h1
  injection h1 with h1
  injection h1 with h1 h2
  exact ⟨h1.symm, h2.symm⟩
set_option maxRecDepth 100000 in
set_option maxHeartbeats 2000000 in
theorem l_eqImageS (a b : Option Addr) (c d : Nat) (X Y : List ImA) (w : World) (ha : ReadIms w a X) (hb : ReadIms w b Y) (hxy : psI X = psI Y) (hl : X.length ≤ 1048576) (hz : ∀ x ∈ X, SmallI x) :
    Calls Try.prog 26 #[.slice a X.length c, .slice b Y.length d] w fun e w' => e = .returned (.bool true) ∧ Below w.heap.size w w' := by
  have hyl : Y.length = X.length := by have := congrArg List.length hxy; rw [psI_len, psI_len] at this; exact this.symm
  have HA := Lib.hid ha
  have HB := Lib.hid hb
  have HXY := Lib.hid hxy
  have HZ := Lib.hid hz
  rw [hyl]
  clear ha hb hxy hyl hz
  go_enter Try.func26, Try.ntmps26
  go_wp2_with fail
  go_loopw [5] (fun i wr => ∃ (k : Nat), k ≤ X.length ∧ i = .int .i64 (k : Int) ∧ Below w.heap.size w wr) (fun i _ => X.length - (RowKit.intOf i).toNat)
  case atStart => exact ⟨0, Nat.zero_le _, rfl, Below.refl _ _⟩
  case round =>
    obtain ⟨k, hk, rfl, hbel⟩ := hrel
    have HBE := Lib.hid hbel
    have hB := hbel.size
    by_cases hlt : k < X.length
    · obtain ⟨hlt2, q0, q1⟩ := psI_at HXY.out k hlt
      obtain ⟨g, rfl, hg, c0, c1, hm⟩ := (HA.out.below hbel) k hlt
      obtain ⟨g', rfl, hg', d0, d1, hm'⟩ := (HB.out.below hbel) k hlt2
      have hzz := HZ.out _ (List.getElem_mem hlt)
      obtain ⟨x, hx⟩ : ∃ x, X[k] = x := ⟨_, rfl⟩
      obtain ⟨y, hy⟩ : ∃ y, Y[k] = y := ⟨_, rfl⟩
      rw [hx] at c0 c1 hm q0 q1 hzz
      rw [hy] at d0 d1 hm' q0 q1
      rw [← q0] at d0
      rw [← q1] at d1 hm'
      have HE := Lib.hid (fun W (hb : Below wr.heap.size wr W) => l_eqImage x.s x.l x.a y.a x.c y.c W (hm.below hb) (hm'.below hb) hzz.2.1)
      obtain ⟨xs, xl, xa, xc⟩ := x
      dsimp only at c0 c1 d0 d1 HE
      have k0 : (0 : Int) ≤ (k : Int) := by omega
      have k1 : (k : Int) < (X.length : Int) := by omega
      have HC := Lib.hid (And.intro c0 c1)
      have HD := Lib.hid (And.intro d0 d1)
      obtain ⟨yys, yyl, yya, yyc⟩ := y
      dsimp only at d1 HE HD
      clear hx hy hm hm' hzz q0 q1 hbel hlt2
      go_wp2_with fail
      go_region_held3 (fun w' => (w'.cell? ⟨g, k * 2, none⟩ = some (.string xs) ∧ w'.cell? ⟨g, k * 2 + 1, none⟩ = some (.slice xa xl.length xc)) ∧
          (w'.cell? ⟨g', k * 2, none⟩ = some (.string xs) ∧ w'.cell? ⟨g', k * 2 + 1, none⟩ = some (.slice yya xl.length yyc)))
        (first | go_keep | (exact ⟨⟨(b1.cell (p := ⟨g, _, none⟩) hg).trans HC.out.1, (b1.cell (p := ⟨g, _, none⟩) hg).trans HC.out.2⟩, ⟨(b1.cell (p := ⟨g', _, none⟩) hg').trans HD.out.1, (b1.cell (p := ⟨g', _, none⟩) hg').trans HD.out.2⟩⟩))
        (first
          | (go_at_call 41; refine (HE.out _ ?_).mono ?_; exact (Below.refl wr.heap.size wr).drew; rintro e w1 ⟨rfl, b1⟩))
      all_goals
        have HB1 : Hid (Below w.heap.size w w1) := Lib.hid (HBE.out.trans ((undrew b1).mono hB))
        clear b1 c0 c1 d0 d1 HC HD
        go_wp2
        go_roundw
        case rel => exact ⟨k + 1, by omega, by go_num, HB1.out⟩
        case measure => simp [RowKit.intOf]; omega
    · go_wp2
      go_ret
      exact ⟨rfl, HBE.out⟩
end Go.Proofs.Ytljmkkodhnkemaa
