/- The laws' own functions on spaces: the size, with the sum of all symbols; Marks of spaces: only the shape of what is marked matters; Marks of spaces: rows of images; spaces; machines; Spaces as arguments of a law, and what does not hang on where a space's parts lie. -/
import Derived.Test.YtakgjlpgcepnkaaGreatI24
import Derived.Test.YtakgjlpgcepnkaaGreatI23
import Derived.Test.YtakgjlpgcepnkaaGreatI07
/-! The laws' own functions on spaces: the size, with the sum of all symbols -/
namespace Go.Proofs.YtakgjlpgcepnkaaGreat
open Go.RowKit Go.Lib

/-- How many symbols. -/
def sumI (l : List ImA) : Nat := (l.map fun x => x.l.length).sum
theorem sumI_next (l : List ImA) (k : Nat) (h : k < l.length) : sumI (l.take (k + 1)) = sumI (l.take k) + l[k].l.length := by
  unfold sumI
  rw [List.take_succ_eq_append_getElem h, List.map_append, List.sum_append]
  simp
theorem sumI_ps {X Y : List ImA} (h : psI X = psI Y) : sumI X = sumI Y := by
  have e : ∀ l : List ImA, sumI l = ((psI l).map fun p => p.2.length).sum := fun l => by unfold sumI psI; rw [List.map_map]; rfl
  rw [e, e, h]
/-- The measure of a row of images: -1, or all is small. -/
def SzImsN (l : List ImA) (left : Int) (w : World) (e : Ending) (w' : World) : Prop :=
  ∃ r : Int, e = .returned (.int .i64 r) ∧ Below w.heap.size w w' ∧ (r = -1 ∨ (0 ≤ r ∧ r + (l.length : Int) + (sumI l : Int) ≤ left ∧ ∀ x ∈ l, SmallI x))
set_option maxRecDepth 100000 in
set_option maxHeartbeats 1000000 in
theorem l_szImageN (x : ImA) (left : Int) (w : World) (ha : ArgIm w x) (h0 : 0 ≤ left) (h1 : left ≤ 1048576) :
    Calls Tryz.prog 36 #[.agg #[.string x.s, .slice x.a x.l.length x.c], .int .i64 left] w fun e w' => ∃ r : Int, e = .returned (.int .i64 r) ∧ Below w.heap.size w w' ∧ (r = -1 ∨ (0 ≤ r ∧ r + (x.l.length : Int) ≤ left ∧ SmallI x)) := by
  have HA := Lib.hid ha.1
  have HM := Lib.hid ha.2.1
  have hc := ha.2.2
  clear ha
  obtain ⟨c, l, a, cap⟩ := x
  dsimp only at HA HM hc ⊢
  unfold maxLen at hc
  by_cases hbig : left < (c.size : Int)
  · have hd : decide (left - (c.size : Int) < 0) = true := by simp; omega
    go_enter Tryz.func36, Tryz.ntmps36
    go_wp2
    go_ret
    exact ⟨-1, rfl, (Below.refl _ _).alloc (Nat.le_refl _) _, .inl rfl⟩
  have hd : decide (left - (c.size : Int) < 0) = false := by simp; omega
  obtain ⟨r0, hr0⟩ : ∃ r : Int, left - (c.size : Int) = r := ⟨_, rfl⟩
  have q0 : 0 ≤ r0 := by omega
  have q1 : r0 ≤ 1048576 := by omega
  have HR0 : Hid (r0 + (c.size : Int) = left) := Lib.hid (by omega)
  rw [hr0] at hd
  have HAb := Lib.hid (HA.out.below ((Below.refl w.heap.size w).alloc (Nat.le_refl _) (.cells #[.string c, .slice a l.length cap] 61)))
  go_enter Tryz.func36, Tryz.ntmps36
  go_wp2_with fail
  clear hr0
  refine (l_szSymbolS a cap l r0 _ HM.out HAb.out q0 q1).mono ?_
  rintro e w2 ⟨r2, rfl, b2, hr2⟩
  have HB2 := Lib.hid b2
  clear b2
  rcases hr2 with rfl | ⟨s0, s1⟩
  · go_wp2
    go_ret
    exact ⟨-1, rfl, ((Below.refl _ _).alloc (Nat.le_refl _) _).trans (HB2.out.mono (by simp)), .inl rfl⟩
  have hd2 : decide (r2 < 0) = false := by simp; omega
  go_wp2
  go_ret
  exact ⟨r2, rfl, ((Below.refl _ _).alloc (Nat.le_refl _) _).trans (HB2.out.mono (by simp)), .inr ⟨s0, by have := HR0.out; omega, ⟨by have := HR0.out; dsimp only; omega, by have := HR0.out; dsimp only; omega, fun y hy => by have := sumSy_mem l y hy; have := HR0.out; omega⟩⟩⟩

set_option maxRecDepth 100000 in
set_option maxHeartbeats 1000000 in
theorem l_szImageSN (a : Option Addr) (cap : Nat) (l : List ImA) (left : Int) (w : World) (hm : l.length ≤ maxLen) (ha : ArgIms w a l) (h0 : 0 ≤ left) (h1 : left ≤ 1048576) :
    Calls Tryz.prog 18 #[.slice a l.length cap, .int .i64 left] w (SzImsN l left w) := by
  have HA := Lib.hid ha
  clear ha
  unfold maxLen at hm
  by_cases hbig : left < (l.length : Int)
  · have hd : decide (left - (l.length : Int) < 0) = true := by simp; omega
    go_enter Tryz.func18, Tryz.ntmps18
    go_wp2
    all_goals go_ret
    all_goals exact ⟨-1, rfl, Below.refl _ _, .inl rfl⟩
  have hd : decide (left - (l.length : Int) < 0) = false := by simp; omega
  have g0 : 0 ≤ left - (l.length : Int) := by omega
  go_enter Tryz.func18, Tryz.ntmps18
  go_wp2_with fail
  clear hd
  go_loopw [1, 5] (fun x i wr => ∃ (k : Nat) (r : Int), k ≤ l.length ∧ i = .int .i64 (k : Int) ∧ x = .int .i64 r ∧ 0 ≤ r ∧ r + (l.length : Int) + (sumI (l.take k) : Int) ≤ left ∧ Hid (∀ x ∈ l.take k, SmallI x) ∧ Below w.heap.size w wr) (fun _ i _ => l.length - (RowKit.intOf i).toNat)
  case atStart => exact ⟨0, left - (l.length : Int), Nat.zero_le _, rfl, rfl, g0, by rw [List.take_zero]; show _ + _ + ((0 : Nat) : Int) ≤ left; omega, Lib.hid (fun x hx => by simp at hx), Below.refl _ _⟩
  case round =>
    obtain ⟨k, r, hk, rfl, rfl, r0, r1, HS, hbel⟩ := hrel
    have HB := Lib.hid hbel
    have hB := hbel.size
    by_cases hlt : k < l.length
    · obtain ⟨x, rfl, hx, c0, c1, hln⟩ := (HA.out.below hbel) k hlt
      have HSUM := Lib.hid (sumI_next l k hlt)
      have NX := Lib.hid (smallI_next l k hlt HS.out)
      obtain ⟨y, hy⟩ : ∃ y, l[k] = y := ⟨_, rfl⟩
      rw [hy] at c0 c1 hln NX HSUM
      have HZ := Lib.hid (l_szImageN y r _ hln r0 (by omega))
      obtain ⟨ys, yl, ya, yc⟩ := y
      have HYL : Hid (yl.length = yl.length) := Lib.hid rfl
      dsimp only at c0 c1 HZ
      have k0 : (0 : Int) ≤ (k : Int) := by omega
      have k1 : (k : Int) < (l.length : Int) := by omega
      clear hy hln hbel
      go_wp2_with fail
      refine HZ.out.mono ?_
      rintro e w1 ⟨r', rfl, b1, hr⟩
      have HB1 : Hid (Below w.heap.size w w1) := Lib.hid (HB.out.trans (b1.mono hB))
      clear b1 c0 c1
      rcases hr with rfl | ⟨p0, p1, p2⟩
      · go_wp2
        go_ret
        exact ⟨-1, rfl, HB1.out, .inl rfl⟩
      · have HN := Lib.hid (NX.out p2)
        have hd : decide (r' < 0) = false := by simp; omega
        clear p2 NX
        go_wp2
        go_roundw
        case rel => exact ⟨k + 1, r', by omega, by go_num, rfl, p0, by have := HSUM.out; have := HYL.out; omega, HN, HB1.out⟩
        case measure => simp [RowKit.intOf]; omega
    · have HN : Hid (∀ x ∈ l, SmallI x) := Lib.hid (by have h := HS.out; rwa [List.take_of_length_le (by omega)] at h)
      go_wp2
      go_ret
      exact ⟨r, rfl, HB.out, .inr ⟨r0, by rw [List.take_of_length_le (by omega)] at r1; exact r1, HN.out⟩⟩

set_option maxRecDepth 100000 in
set_option maxHeartbeats 1000000 in
theorem l_szSpaceN (a0 a1 a2 : Option Addr) (c0 c1 c2 : Nat) (I : List ImA) (B E : List Int) (left : Int) (w : World) (hI : I.length ≤ maxLen) (hB : B.length ≤ maxLen) (hE : E.length ≤ maxLen) (ha : ArgSp w a0 I a1 B a2 E) (h0 : 0 ≤ left) (h1 : left ≤ 1048576) :
    Calls Tryz.prog 5 #[.agg #[.slice a0 I.length c0, .slice a1 B.length c1, .slice a2 E.length c2], .int .i64 left] w fun e w' => ∃ r : Int, e = .returned (.int .i64 r) ∧ Below w.heap.size w w' ∧ (r = -1 ∨ (0 ≤ r ∧ r + (I.length : Int) + (sumI I : Int) + (B.length : Int) + (E.length : Int) ≤ left ∧ ∀ x ∈ I, SmallI x)) := by
  have T0 := Lib.hid (heap_alloc_new w (.cells #[.slice a0 I.length c0, .slice a1 B.length c1, .slice a2 E.length c2] 25))
  have TB := Lib.hid ((Below.refl w.heap.size w).alloc (Nat.le_refl _) (.cells #[.slice a0 I.length c0, .slice a1 B.length c1, .slice a2 E.length c2] 25))
  have SI := Lib.hid (l_szImageSN a0 c0 I left _ hI (ha.1.below TB.out) h0 h1)
  clear ha
  go_enter Tryz.func5, Tryz.ntmps5
  go_wp2_with fail
  refine SI.out.mono ?_
  rintro e w1 ⟨r1, rfl, b1, hr1⟩
  have tz : (w.alloc (.cells #[.slice a0 I.length c0, .slice a1 B.length c1, .slice a2 E.length c2] 25)).heap.size = w.heap.size + 1 := by simp
  have z1 := b1.size
  rw [tz] at z1 b1
  have P1 := Lib.hid ((b1.block _ (by omega)).trans T0.out)
  have HB1 : Hid (Below w.heap.size w w1) := Lib.hid (TB.out.trans (b1.mono (by omega)))
  clear tz b1 T0 TB SI
  rcases hr1 with rfl | ⟨p0, p1, p3⟩
  · go_wp2
    go_ret
    exact ⟨-1, rfl, HB1.out, .inl rfl⟩
  have HS := Lib.hid p3
  clear p3
  have hd : decide (r1 < 0) = false := by simp; omega
  obtain ⟨e0, e1, e2⟩ := cells3s P1.out
  go_wp2_with fail
  refine (l_szIntS a1 c1 B.length r1 _ (by omega) (by omega) hB).mono ?_
  rintro e w2 ⟨r2, rfl, rfl, hr2⟩
  rcases hr2 with rfl | ⟨q0, q1⟩
  · go_wp2
    go_ret
    exact ⟨-1, rfl, HB1.out, .inl rfl⟩
  have hd2 : decide (r2 < 0) = false := by simp; omega
  go_wp2_with fail
  refine (l_szIntS a2 c2 E.length r2 _ (by omega) (by omega) hE).mono ?_
  rintro e w2 ⟨r3, rfl, rfl, hr3⟩
  rcases hr3 with rfl | ⟨s0, s1⟩
  · go_wp2
    go_ret
    exact ⟨-1, rfl, HB1.out, .inl rfl⟩
  have hd3 : decide (r3 < 0) = false := by simp; omega
  go_wp2
  go_ret
  exact ⟨r3, rfl, HB1.out, .inr ⟨s0, by omega, HS.out⟩⟩

end Go.Proofs.YtakgjlpgcepnkaaGreat

/-! Marks of spaces: only the shape of what is marked matters -/
namespace Go.Proofs.YtakgjlpgcepnkaaGreat
open Go.RowKit Go.Lib

/-- Rows by their shape. -/
def ShS (lo hi : Nat) (w : World) (a : Option Addr) (n : Nat) : Prop := ∀ j, j < n → ∃ g, a = some ⟨g, 0, none⟩ ∧ lo ≤ g ∧ g < hi ∧ (∃ s u v, w.cell? ⟨g, j * 3, none⟩ = some (.string s) ∧ w.cell? ⟨g, j * 3 + 1, none⟩ = some (.int .i64 u) ∧ w.cell? ⟨g, j * 3 + 2, none⟩ = some (.int .i64 v)) ∧ ∀ i, w.frozen? ⟨g, i, none⟩ = false
def ShM (lo hi : Nat) (w : World) (a : Option Addr) (X : List ImA) : Prop := ∀ j (h : j < X.length), ∃ g, a = some ⟨g, 0, none⟩ ∧ lo ≤ g ∧ g < hi ∧ (∃ s, w.cell? ⟨g, j * 2, none⟩ = some (.string s) ∧ w.cell? ⟨g, j * 2 + 1, none⟩ = some (.slice X[j].a X[j].l.length X[j].c)) ∧ (∀ i, w.frozen? ⟨g, i, none⟩ = false) ∧ ShS lo hi w X[j].a X[j].l.length
theorem ShS.mkd {lo hi n : Nat} {w w' : World} {a : Option Addr} (h : ShS lo hi w a n) (hm : Mkd lo hi w w') : ShS lo hi w' a n := fun j hj => by
  obtain ⟨g, e, h1, h2, ⟨s, u, v, c0, c1, c2⟩, hf⟩ := h j hj
  obtain ⟨y0, e0, s0⟩ := hm.cell _ _ _ c0
  obtain ⟨y1, e1, s1⟩ := hm.cell _ _ _ c1
  obtain ⟨y2, e2, s2⟩ := hm.cell _ _ _ c2
  obtain ⟨t0, rfl⟩ := s0.str
  obtain ⟨t1, rfl⟩ := s1.int
  obtain ⟨t2, rfl⟩ := s2.int
  exact ⟨g, e, h1, h2, ⟨t0, t1, t2, e0, e1, e2⟩, fun i => hm.frz _ _ (World.block_lt_of_cell? w _ c0) (hf i)⟩
theorem ShM.mkd {lo hi : Nat} {w w' : World} {a : Option Addr} {X : List ImA} (h : ShM lo hi w a X) (hm : Mkd lo hi w w') : ShM lo hi w' a X := fun j hj => by
  obtain ⟨g, e, h1, h2, ⟨s, c0, c1⟩, hf, hs⟩ := h j hj
  obtain ⟨y0, e0, s0⟩ := hm.cell _ _ _ c0
  obtain ⟨y1, e1, s1⟩ := hm.cell _ _ _ c1
  obtain ⟨t0, rfl⟩ := s0.str
  obtain rfl := s1.slice
  exact ⟨g, e, h1, h2, ⟨t0, e0, e1⟩, fun i => hm.frz _ _ (World.block_lt_of_cell? w _ c0) (hf i), hs.mkd hm⟩
theorem shS_of {B T c : Nat} {w : World} {a : Option Addr} {l : List SyL} (h : w.ownsRow B T 3 (.slice a l.length c) l.length (sysV l)) : ShS B w.heap.size w a l.length := fun j hj => by
  obtain ⟨g, e, hg, c0, c1, c2⟩ := readSy_of h j hj
  refine ⟨g, e, ?_, hg, ⟨_, _, _, c0, c1, c2⟩, ?_⟩
  · rcases h.2 with ⟨e', _⟩ | ⟨g', cap, cur, e', h1, _⟩
    · injection e' with e' e''; omega
    · injection e' with e'
      rw [e] at e'
      injection e' with e'
      injection e' with e'
      omega
  · subst e
    exact h.frozenAt
theorem shM_of {B TI TS c : Nat} {w : World} {a : Option Addr} {X : List ImA} (h : w.ownsRow B TI 2 (.slice a X.length c) X.length (imsV X)) (hm : MadeG TS B w X) (hr : ReadIms w a X) : ShM B w.heap.size w a X := fun j hj => by
  obtain ⟨g, e, hg, c0, c1, _⟩ := hr j hj
  refine ⟨g, e, ?_, hg, ⟨_, c0, c1⟩, ?_, shS_of (hm _ (List.getElem_mem hj))⟩
  · rcases h.2 with ⟨e', _⟩ | ⟨g', cap, cur, e', h1, _⟩
    · injection e' with e' e''; omega
    · injection e' with e'
      rw [e] at e'
      injection e' with e'
      injection e' with e'
      omega
  · subst e
    exact h.frozenAt
set_option maxHeartbeats 2000000 in
theorem l_markSymM (lo hi : Nat) (a : Option Addr) (n c m : Nat) (w : World) (hs : ShS lo hi w a n) (hl : n ≤ 1048576) (h0 : 0 < m) (h1 : m ≤ 5000000) :
    Calls Tryz.prog 56 #[.slice a n c, .int .i64 (m : Int)] w fun e w' => e = .returned (.int .i64 ((m + 3 * n : Nat) : Int)) ∧ Mkd lo hi w w' := by
  have HS := Lib.hid hs
  clear hs
  go_enter Tryz.func56, Tryz.ntmps56
  go_wp2_with fail
  go_loopw [1, 5] (fun x i wr => ∃ k : Nat, k ≤ n ∧ i = .int .i64 (k : Int) ∧ x = .int .i64 ((m + 3 * k : Nat) : Int) ∧ Hid (Mkd lo hi w wr)) (fun _ i _ => n - (intOf i).toNat)
  case atStart => exact ⟨0, Nat.zero_le _, rfl, rfl, Lib.hid (Mkd.refl _ _ _)⟩
  case round =>
    obtain ⟨k, hk, rfl, rfl, HM⟩ := hrel
    by_cases hlt : k < n
    · have k0 : (0 : Int) ≤ (k : Int) := by omega
      have k1 : (k : Int) < (n : Int) := by omega
      obtain ⟨g, rfl, q1, q2, _⟩ := (HS.out.mkd HM.out) k hlt
      go_wp2_with fail
      refine (l_mark _ (m + 3 * k) _ (by omega) (by omega) (by omega)).mono ?_
      rintro e w1 ⟨rfl, b1⟩
      have HM1 : Hid (Mkd lo hi w w1) := Lib.hid (HM.out.trans (Mkd.below b1))
      clear b1
      obtain ⟨g', e', _, _, ⟨s, u, v, c0, c1, c2⟩, hf⟩ := (HS.out.mkd HM1.out) k hlt
      injection e' with e'
      injection e' with e'
      subst e'
      generalize mkT (m + 3 * k) = z
      have M1 := Mkd.set q1 q2 c0 (v := .string z) (Shp.strs _ _)
      obtain ⟨y1, d1, s1⟩ := M1.cell _ _ _ c1
      have M2 := Mkd.set q1 q2 d1 (v := .int .i64 ((m : Int) + 3 * (k : Int) + 1)) (by obtain ⟨t, rfl⟩ := s1.int; exact Shp.ints _ _)
      obtain ⟨y2, d2, s2⟩ := (M1.trans M2).cell _ _ _ c2
      have M3 := Mkd.set q1 q2 d2 (v := .int .i64 ((m : Int) + 3 * (k : Int) + 1 + 1)) (by obtain ⟨t, rfl⟩ := s2.int; exact Shp.ints _ _)
      have HM2 : Hid (Mkd lo hi w _) := Lib.hid (HM1.out.trans ((M1.trans M2).trans M3))
      clear M1 M2 M3 s1 s2 d1 d2
      go_wp2
      go_roundw
      case rel => exact ⟨k + 1, by omega, by go_num, by go_num, HM2⟩
      case measure => simp [intOf]; omega
    · have hkk : k = n := by omega
      subst hkk
      go_wp2
      go_ret
      exact ⟨rfl, HM.out⟩
end Go.Proofs.YtakgjlpgcepnkaaGreat

/-! Marks of spaces: rows of images; spaces; machines -/
namespace Go.Proofs.YtakgjlpgcepnkaaGreat
open Go.RowKit Go.Lib

set_option maxHeartbeats 2000000 in
theorem l_markImM (lo hi : Nat) (a : Option Addr) (X : List ImA) (c m : Nat) (w : World) (hs : ShM lo hi w a X) (hl : X.length ≤ 1048576) (h0 : 0 < m) (h1 : m + X.length + 3 * sumI X ≤ 5000000) (hx : ∀ x ∈ X, x.l.length ≤ 1048576) :
    Calls Tryz.prog 32 #[.slice a X.length c, .int .i64 (m : Int)] w fun e w' => e = .returned (.int .i64 ((m + X.length + 3 * sumI X : Nat) : Int)) ∧ Mkd lo hi w w' := by
  have HS := Lib.hid hs
  have HX := Lib.hid hx
  have mono : ∀ k, k ≤ X.length → sumI (X.take k) ≤ sumI X := fun k _ => by
    have e : sumI X = sumI (X.take k) + sumI (X.drop k) := by unfold sumI; rw [← List.sum_append, ← List.map_append, List.take_append_drop]
    omega
  have HMO := Lib.hid mono
  clear hs hx mono
  go_enter Tryz.func32, Tryz.ntmps32
  go_wp2_with fail
  go_loopw [1, 5] (fun x i wr => ∃ k : Nat, k ≤ X.length ∧ i = .int .i64 (k : Int) ∧ x = .int .i64 ((m + k + 3 * sumI (X.take k) : Nat) : Int) ∧ Hid (Mkd lo hi w wr)) (fun _ i _ => X.length - (intOf i).toNat)
  case atStart => exact ⟨0, Nat.zero_le _, rfl, by rw [List.take_zero]; rfl, Lib.hid (Mkd.refl _ _ _)⟩
  case round =>
    obtain ⟨k, hk, rfl, rfl, HM⟩ := hrel
    by_cases hlt : k < X.length
    · have k0 : (0 : Int) ≤ (k : Int) := by omega
      have k1 : (k : Int) < (X.length : Int) := by omega
      have HN := Lib.hid (sumI_next X k hlt)
      have HN1 := Lib.hid (HMO.out (k + 1) hlt)
      have hkk := HMO.out k hk
      have hyl := Lib.hid (HX.out _ (List.getElem_mem hlt))
      have HSK := Lib.hid (fun (W : World) (hm : Mkd lo hi w W) => (HS.out.mkd hm) k hlt)
      obtain ⟨y, hy⟩ : ∃ y, X[k] = y := ⟨_, rfl⟩
      rw [hy] at HN hyl HSK
      clear hy
      obtain ⟨S, hS⟩ : ∃ S, sumI (X.take k) = S := ⟨_, rfl⟩
      rw [hS] at HN hkk
      have HSS := Lib.hid hS
      rw [hS]
      clear hS
      have mb : m + k + 3 * S ≤ 5000000 := by omega
      obtain ⟨g, rfl, q1, q2, _⟩ := HSK.out _ HM.out
      obtain ⟨M, hM⟩ : ∃ M, m + k + 3 * S = M := ⟨_, rfl⟩
      have HMM := Lib.hid hM
      rw [hM] at mb
      rw [hM]
      have hM0 : 0 < M := by omega
      clear hM hkk
      go_wp2_with fail
      refine (l_mark _ M _ rfl hM0 (by omega)).mono ?_
      rintro e w1 ⟨rfl, b1⟩
      have HM1 : Hid (Mkd lo hi w w1) := Lib.hid (HM.out.trans (Mkd.below b1))
      clear b1
      obtain ⟨g', e', _, _, ⟨s, c0, c1⟩, hf, _⟩ := HSK.out _ HM1.out
      injection e' with e'
      injection e' with e'
      subst e'
      generalize mkT M = z
      have M1 := Mkd.set q1 q2 c0 (v := .string z) (Shp.strs _ _)
      have HM2 : Hid (Mkd lo hi w _) := Lib.hid (HM1.out.trans M1)
      obtain ⟨_, e2, _, _, ⟨_, _, c1'⟩, _, hsy⟩ := HSK.out _ HM2.out
      injection e2 with e2
      injection e2 with e2
      subst e2
      have SY := Lib.hid (l_markSymM lo hi y.a y.l.length y.c (M + 1) _ hsy hyl.out (by omega) (by have := HMM.out; have := HN1.out; have := HN.out; omega))
      rw [Int.natCast_add] at SY
      clear M1 hsy c1
      go_wp2_with fail
      refine SY.out.mono ?_
      rintro e w2 ⟨rfl, b2⟩
      have HM3 : Hid (Mkd lo hi w w2) := Lib.hid (HM2.out.trans b2)
      clear b2 SY HM2 HM1 c0 c1' hf
      go_wp2
      go_roundw
      case rel => exact ⟨k + 1, by omega, by go_num, (by have h1 := HN.out; have h2 := HMM.out; rw [h1]; congr 2; omega), HM3⟩
      case measure => simp [intOf]; omega
    · have hkk : k = X.length := by omega
      subst hkk
      rw [List.take_length]
      go_wp2
      go_ret
      exact ⟨rfl, HM.out⟩
set_option maxHeartbeats 2000000 in
theorem l_markSpM (lo hi : Nat) (a0 a1 a2 : Option Addr) (c0 c1 c2 m nb ne : Nat) (X : List ImA) (w : World) (hh : hi ≤ w.heap.size) (hs : ShM lo hi w a0 X) (hb : ShI lo hi w a1 nb) (he : ShI lo hi w a2 ne) (h0 : 0 < m) (h1 : m + X.length + 3 * sumI X ≤ 5000000) (hx : ∀ x ∈ X, x.l.length ≤ 1048576) (hl : X.length ≤ 1048576) (hnb : nb ≤ 1048576) (hne : ne ≤ 1048576) :
    Calls Tryz.prog 13 #[.agg #[.slice a0 X.length c0, .slice a1 nb c1, .slice a2 ne c2], .int .i64 (m : Int)] w fun e w' => e = .returned (.int .i64 ((m + X.length + 3 * sumI X + nb + ne : Nat) : Int)) ∧ Mkd lo hi w w' := by
  have T0 := Lib.hid (heap_alloc_new w (.cells #[.slice a0 X.length c0, .slice a1 nb c1, .slice a2 ne c2] 34))
  have TB := Lib.hid ((Below.refl w.heap.size w).alloc (Nat.le_refl _) (.cells #[.slice a0 X.length c0, .slice a1 nb c1, .slice a2 ne c2] 34))
  have M0 : Hid (Mkd lo hi w _) := Lib.hid (Mkd.below TB.out)
  have C1 := Lib.hid (l_markImM lo hi a0 X c0 m _ (hs.mkd M0.out) hl h0 h1 hx)
  have C2 := Lib.hid (fun (W : World) (hm : Mkd lo hi w W) (k : Nat) hk => l_markIntM lo hi a1 nb c1 k W (hb.mkd hm) hnb hk)
  have C3 := Lib.hid (fun (W : World) (hm : Mkd lo hi w W) (k : Nat) hk => l_markIntM lo hi a2 ne c2 k W (he.mkd hm) hne hk)
  have tz : (w.alloc (.cells #[.slice a0 X.length c0, .slice a1 nb c1, .slice a2 ne c2] 34)).heap.size = w.heap.size + 1 := by simp
  have HH := Lib.hid hh
  clear hs hb he hx
  obtain ⟨M, hM⟩ : ∃ M, m + X.length + 3 * sumI X = M := ⟨_, rfl⟩
  rw [hM] at h1 C1
  rw [hM]
  clear hM
  go_enter Tryz.func13, Tryz.ntmps13
  go_wp2_with fail
  refine C1.out.mono ?_
  rintro e w1 ⟨rfl, b1⟩
  have M1 : Hid (Mkd lo hi w w1) := Lib.hid (M0.out.trans b1)
  have P1 := Lib.hid ((b1.block (k := w.heap.size) (by rw [tz]; omega) (.inr HH.out)).trans T0.out)
  have z1 := b1.size
  rw [tz] at z1
  clear b1 tz T0 TB M0 C1
  obtain ⟨e0, e1, e2⟩ := cells3s P1.out
  go_wp2_with fail
  refine (C2.out _ M1.out M (by omega)).mono ?_
  rintro e w2 ⟨rfl, b2⟩
  have M2 : Hid (Mkd lo hi w w2) := Lib.hid (M1.out.trans b2)
  have P2 := Lib.hid ((b2.block (k := w.heap.size) (by omega) (.inr HH.out)).trans P1.out)
  clear b2 P1 M1 C2 e0 e1 e2
  obtain ⟨e0, e1, e2⟩ := cells3s P2.out
  go_wp2_with fail
  refine (C3.out _ M2.out (M + nb) (by omega)).mono ?_
  rintro e w3 ⟨rfl, b3⟩
  have M3 : Hid (Mkd lo hi w w3) := Lib.hid (M2.out.trans b3)
  clear b3 P2 M2 C3 e0 e1 e2
  go_wp2
  go_ret
  exact ⟨rfl, M3.out⟩
end Go.Proofs.YtakgjlpgcepnkaaGreat

/-! Spaces as arguments of a law, and what does not hang on where a space's parts lie. Nothing of the program -/
namespace Go.Proofs.YtakgjlpgcepnkaaGreat
open Go.RowKit Go.Lib Go.ChangeShapes Go.WideShapes Go.Deep

section
variable {H : Type} {enc : TypeId × Value → H} {P : Program} {w : World} {held : Bool}
end
/-- Images without addresses. -/
def canI (l : List (ByteArray × List SyL)) : List ImA := l.map fun p => ⟨p.1, p.2, none, 0⟩
theorem canI_len (X : List ImA) : (canI (psI X)).length = X.length := by unfold canI psI; simp
theorem spB_can (X : List ImA) (B E : List Int) : spB X B E = spB (canI (psI X)) B E := by
  match X with
  | [] => rfl
  | [_] => rfl
  | [x, y] =>
    match B with
    | [] => rfl
    | [_] => rfl
    | [b0, b1] => rfl
    | _ :: _ :: _ :: _ => rfl
  | _ :: _ :: _ :: _ => unfold spB; rw [canI_len]; rfl
end Go.Proofs.YtakgjlpgcepnkaaGreat
