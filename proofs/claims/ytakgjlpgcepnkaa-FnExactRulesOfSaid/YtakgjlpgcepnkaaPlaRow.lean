/- The laws' toPlaceS and eqPlaceS. -/
import Derived.Test.YtakgjlpgcepnkaaPlaTo
import Derived.Test.YtakgjlpgcepnkaaItmEq
import Derived.Deep.RegionHeld3
namespace Go.Proofs.Ytakgjlpgcepnkaa
open Go.RowKit Go.Lib

theorem infoPla : (Try.prog.info? 39).map (fun i => (i.zero, i.size, i.bytes)) = some (some (.agg #[.int .i64 0, .int .i64 0, .int .i64 0, .int .i64 0, .bool false, .slice none 0 0, .int .i64 0, .bool false]), 8, 80) := by kernel_rfl
def pplA (l : List APl) : List PPl := l.map (·.pp)
theorem pplA_next (l : List APl) (k : Nat) (h : k < l.length) : pplA (l.take (k + 1)) = pplA (l.take k) ++ [l[k].pp] := by
  rw [List.take_succ_eq_append_getElem h]
  unfold pplA
  rw [List.map_append]
  rfl
/-- A row of items was returned, in a row of its own from block B on. -/
def PlasRes (B : Nat) (ps : List PPl) (w : World) (e : Ending) (w' : World) : Prop :=
  ∃ v X, e = .returned v ∧ w'.ownsRow B 39 8 v X.length (vplV X) ∧ MadeI 3 B w' (pchL X) ∧ X.map (·.pp) = ps ∧ Below w.heap.size w w'
set_option maxRecDepth 100000 in
set_option maxHeartbeats 2000000 in
theorem l_toPlaceS (a : Option Addr) (cap : Nat) (l : List APl) (w : World) (hl : l.length ≤ 1048576) (ha : ArgPls w a l) (hs : ∀ x ∈ l, x.x.p.chain.length ≤ 1048576) :
    Calls Try.prog 16 #[.slice a l.length cap] w (PlasRes w.heap.size (pplA l) w) := by
  have HA := Lib.hid ha
  have HSM := Lib.hid hs
  clear ha hs
  obtain ⟨i0, hi, hz0, hz1, hz2⟩ := info_parts infoPla
  have hmk := fun W => run_make_rowN (P := Try.prog) 29 39 i0 _ 8 80 Try.underlying29 hi hz0 hz1 hz2 .i64 .i64 l.length l.length (Nat.le_refl _) (by omega) (by omega) W
  obtain ⟨cs, hcs⟩ : ∃ cs, madeCells (Value.agg #[.int .i64 0, .int .i64 0, .int .i64 0, .int .i64 0, .bool false, .slice none 0 0, .int .i64 0, .bool false]).cells (l.length * 8) = cs := ⟨_, rfl⟩
  have hcsz : cs.size = l.length * 8 := by rw [← hcs, size_madeCells]
  rw [hcs] at hmk
  clear hcs hi hz0 hz1 hz2
  have HZ := Lib.hid hcsz
  clear hcsz
  go_enter Try.func16, Try.ntmps16
  go_wp2_with fail
  clear hmk
  go_loopw [4] (fun i wr => ∃ (k : Nat) (X : List VPl) (R : List Value), k ≤ l.length ∧ i = .int .i64 (k : Int) ∧ R.length = (l.length - k) * 8 ∧ X.length = k ∧ Hid (X.map (·.pp) = pplA (l.take k)) ∧ Hid (MadeI 3 w.heap.size wr (pchL X)) ∧ wr.ownsRow w.heap.size 39 8 (.slice (some ⟨w.heap.size, 0, none⟩) l.length l.length) l.length (vplV X ++ R) ∧ Below w.heap.size w wr) (fun i _ => l.length - (RowKit.intOf i).toNat)
  case atStart => exact ⟨0, [], cs.toList, Nat.zero_le _, rfl, by simpa using HZ.out, rfl, Lib.hid rfl, Lib.hid (MadeI.nil _ _ _), World.ownsRow_lit _ _ _ (Nat.le_refl _) (by unfold maxLen; omega) HZ.out, (Below.refl _ _).alloc (Nat.le_refl _) _⟩
  case round =>
    obtain ⟨k, X, R, hk, rfl, hR, hX, HP, HAL, hown, hbel⟩ := hrel
    have HO := Lib.hid hown
    have HB := Lib.hid hbel
    have hB := hbel.size
    have hgl : w.heap.size < wr.heap.size := (hown.lt w.heap.size rfl).2
    clear hown
    by_cases hlt : k < l.length
    · obtain ⟨x, rfl, hx, c0, c1, c2, c3, c4, c5, c6, c7, hln⟩ := (HA.out.below hbel) k hlt
      have hsm := HSM.out _ (List.getElem_mem hlt)
      have PN := Lib.hid (pplA_next l k hlt)
      obtain ⟨y, hy⟩ : ∃ y, l[k] = y := ⟨_, rfl⟩
      rw [hy] at c0 c1 c2 c3 c4 c5 c6 c7 hln hsm PN
      obtain ⟨y0, y1, y2, y3, y4, y5, y6, y7, R', hRe, hR'⟩ := eight R (l.length - (k + 1)) (by rw [hR]; congr 1; omega)
      subst hRe
      have HR' := Lib.hid hR'
      have HC := Lib.hid (l_toPlace y _ hsm hln)
      obtain ⟨of, ⟨⟨co, ar, li, st, ch, de, en⟩, ya, yc⟩⟩ := y
      unfold PlaRes at HC
      dsimp only [APl.pp] at c0 c1 c2 c3 c4 c5 c6 c7 HC PN
      have HS := Lib.hid (fun v => vpl_set X k hX ⟨of, ⟨⟨co, ar, li, st, ch, de, en⟩, v⟩⟩ y0 y1 y2 y3 y4 y5 y6 y7 R')
      have HXL := Lib.hid hX
      have k0 : (0 : Int) ≤ (k : Int) := by omega
      have k1 : (k : Int) < (l.length : Int) := by omega
      clear hy hsm hln hR hR' hbel hX
      go_wp2_with fail
      refine HC.out.mono ?_
      rintro e w1 ⟨va, rfl, O1, b1⟩
      obtain ⟨av, cv, rfl⟩ := owns_shape O1
      have HO1 : Hid (w1.ownsRow w.heap.size 39 8 (.slice (some ⟨w.heap.size, 0, none⟩) l.length l.length) l.length (vplV X ++ y0 :: y1 :: y2 :: y3 :: y4 :: y5 :: y6 :: y7 :: R')) := Lib.hid (owns_blks HO.out (fun g hg => b1.block g (HO.out.lt g hg).2))
      have HB1 := Lib.hid (HB.out.trans (b1.mono hB))
      have hs1 := b1.size
      have HAL1 : Hid (MadeI 3 w.heap.size w1 (pchL (X ++ [⟨of, ⟨⟨co, ar, li, st, ch, de, en⟩, .slice av ch.length cv⟩⟩]))) := Lib.hid (by
        have e : pchL (X ++ [⟨of, ⟨⟨co, ar, li, st, ch, de, en⟩, .slice av ch.length cv⟩⟩]) = pchL X ++ [⟨ch, .slice av ch.length cv⟩] := by unfold pchL; rw [List.map_append]; rfl
        rw [e]
        exact HAL.out.snoc b1 O1 hB (Nat.le_refl _))
      have HSS := Lib.hid (HS.out (.slice av ch.length cv))
      clear b1 c0 c1 c2 c3 c4 c5 c6 c7 O1
      have hlen : (vplV X ++ y0 :: y1 :: y2 :: y3 :: y4 :: y5 :: y6 :: y7 :: R').length = l.length * 8 := HO1.out.1
      have cellk : ∀ i, i < 8 → ∃ y, w1.cell? ⟨w.heap.size, k * 8 + i, none⟩ = some y := fun i hi => by
        have := HO1.out.cellAt (k * 8 + i) (by omega)
        rw [this]
        exact ⟨_, List.getElem?_eq_getElem (by omega)⟩
      obtain ⟨z0, e0⟩ := cellk 0 (by omega)
      rw [Nat.add_zero] at e0
      obtain ⟨z1, e1⟩ := cellk 1 (by omega)
      obtain ⟨z2, e2⟩ := cellk 2 (by omega)
      obtain ⟨z3, e3⟩ := cellk 3 (by omega)
      obtain ⟨z4, e4⟩ := cellk 4 (by omega)
      obtain ⟨z5, e5⟩ := cellk 5 (by omega)
      obtain ⟨z6, e6⟩ := cellk 6 (by omega)
      obtain ⟨z7, e7⟩ := cellk 7 (by omega)
      have fr := HO1.out.frozenAt
      have S1 := HO1.out.stored (k * 8) (.int .i64 of)
      have S2 := S1.1.stored (k * 8 + 1) (.int .i64 co)
      have S3 := S2.1.stored (k * 8 + 2) (.int .i64 ar)
      have S4 := S3.1.stored (k * 8 + 3) (.int .i64 li)
      have S5 := S4.1.stored (k * 8 + 4) (.bool st)
      have S6 := S5.1.stored (k * 8 + 5) (.slice av ch.length cv)
      have S7 := S6.1.stored (k * 8 + 6) (.int .i64 de)
      have S8 := S7.1.stored (k * 8 + 7) (.bool en)
      have HO2 := Lib.hid (HSS.out ▸ S8.1)
      have HG := Lib.hid (((((((S1.2.trans S2.2).trans S3.2).trans S4.2).trans S5.2).trans S6.2).trans S7.2).trans S8.2)
      have HB2 := Lib.hid (HB1.out.grown HG.out (by omega) (fun j hj => by injection hj with e; omega))
      clear cellk hlen S1 S2 S3 S4 S5 S6 S7 S8
      go_wp2
      go_roundw
      case rel =>
        refine ⟨k + 1, X ++ [⟨of, ⟨⟨co, ar, li, st, ch, de, en⟩, .slice av ch.length cv⟩⟩], R', by omega, by go_num, HR'.out, by rw [List.length_append, HXL.out]; rfl, Lib.hid ?_, Lib.hid ?_, HO2.out, HB2.out⟩
        · rw [PN.out, ← HP.out]; simp [VPl.pp]
        · refine HAL1.out.kept HG.out (fun x hx g hg e => ?_)
          have hne := ap_types HO1.out (HAL1.out.1 x hx) (by decide)
          exact hne g e hg
      case measure => simp [RowKit.intOf]; omega
    · have hkk : k = l.length := by omega
      subst hkk
      have hR0 : R = [] := List.length_eq_zero_iff.1 (by rw [hR]; simp)
      subst hR0
      have HPF : Hid (X.map (·.pp) = pplA l) := Lib.hid (by have h := HP.out; rwa [List.take_of_length_le (Nat.le_refl _)] at h)
      have HOF : Hid (wr.ownsRow w.heap.size 39 8 (.slice (some ⟨w.heap.size, 0, none⟩) l.length l.length) X.length (vplV X)) := Lib.hid (by have h := HO.out; rw [List.append_nil] at h; rw [hX]; exact h)
      clear hX hR HO hlt
      go_wp2
      go_ret
      exact ⟨_, X, rfl, HOF.out, HAL.out, HPF.out, HB.out⟩
set_option maxRecDepth 100000 in
set_option maxHeartbeats 2000000 in
theorem l_eqPlace (of co ar li : Int) (st : Bool) (ch : List Int) (de : Int) (en : Bool) (a b : Option Addr) (c d : Nat) (w : World) (ha : ReadI w a ch) (hb : ReadI w b ch) (hl : ch.length ≤ 1048576) :
    Calls Try.prog 48 #[.agg #[.int .i64 of, .int .i64 co, .int .i64 ar, .int .i64 li, .bool st, .slice a ch.length c, .int .i64 de, .bool en], .agg #[.int .i64 of, .int .i64 co, .int .i64 ar, .int .i64 li, .bool st, .slice b ch.length d, .int .i64 de, .bool en]] w fun e w' => e = .returned (.bool true) ∧ Below w.heap.size w w' := by
  have HB0 : Hid (Below w.heap.size w ((w.alloc (.cells #[.int .i64 of, .int .i64 co, .int .i64 ar, .int .i64 li, .bool st, .slice a ch.length c, .int .i64 de, .bool en] 39)).alloc (.cells #[.int .i64 of, .int .i64 co, .int .i64 ar, .int .i64 li, .bool st, .slice b ch.length d, .int .i64 de, .bool en] 39))) := Lib.hid (((Below.refl _ _).alloc (Nat.le_refl _) _).alloc (by simp) _)
  have EI := Lib.hid (l_eqItem co ar li st ch de en a b c d _ (ha.below HB0.out) (hb.below HB0.out) hl)
  clear ha hb hl
  go_enter Try.func48, Try.ntmps48
  go_wp2_with fail
  refine EI.out.mono ?_
  rintro e w1 ⟨rfl, b1⟩
  have HB1 : Hid (Below w.heap.size w w1) := Lib.hid (HB0.out.trans (b1.mono HB0.out.size))
  clear b1
  go_wp2
  go_ret
  exact ⟨rfl, HB1.out⟩
/-- A row of places in memory. -/
structure RowP (w : World) (v : Value) (X : List VPl) : Prop where
  own : w.ownsRow 0 39 8 v X.length (vplV X)
  ch : ∀ x ∈ X, w.ownsRow 0 3 1 x.x.v x.x.p.chain.length (intV x.x.p.chain)
theorem RowP.below {w w' : World} {v : Value} {X : List VPl} (h : RowP w v X) (hb : Below w.heap.size w w') : RowP w' v X := ⟨owns_blks h.own (fun g hg => hb.block g (h.own.lt g hg).2), fun x hx => owns_below (h.ch x hx) hb⟩
theorem rowP_of {B B' : Nat} {w : World} {v : Value} {X : List VPl} (h : w.ownsRow B 39 8 v X.length (vplV X)) (hm : MadeI 3 B' w (pchL X)) : RowP w v X := ⟨owns_lo h (Nat.zero_le _), fun x hx => owns_lo (hm.1 ⟨x.x.p.chain, x.x.v⟩ (by unfold pchL; exact List.mem_map.2 ⟨x, hx, rfl⟩)) (Nat.zero_le _)⟩
theorem RowP.at {w : World} {a : Option Addr} {n c : Nat} {X : List VPl} (h : RowP w (.slice a n c) X) (j : Nat) (hj : j < X.length) : ∃ g xa xc, a = some ⟨g, 0, none⟩ ∧ X[j].x.v = .slice xa X[j].x.p.chain.length xc ∧ ReadI w xa X[j].x.p.chain ∧
    w.cell? ⟨g, j * 8, none⟩ = some (.int .i64 X[j].off) ∧ w.cell? ⟨g, j * 8 + 1, none⟩ = some (.int .i64 X[j].x.p.code) ∧ w.cell? ⟨g, j * 8 + 2, none⟩ = some (.int .i64 X[j].x.p.arg) ∧ w.cell? ⟨g, j * 8 + 3, none⟩ = some (.int .i64 X[j].x.p.line) ∧ w.cell? ⟨g, j * 8 + 4, none⟩ = some (.bool X[j].x.p.start) ∧ w.cell? ⟨g, j * 8 + 5, none⟩ = some (.slice xa X[j].x.p.chain.length xc) ∧ w.cell? ⟨g, j * 8 + 6, none⟩ = some (.int .i64 X[j].x.p.depth) ∧ w.cell? ⟨g, j * 8 + 7, none⟩ = some (.bool X[j].x.p.ent) := by
  have hc := h.ch _ (List.getElem_mem hj)
  obtain ⟨xa, xc, hx⟩ := owns_shape hc
  rw [hx] at hc
  have ho := h.own
  obtain ⟨g, hg⟩ : ∃ g, a = some ⟨g, 0, none⟩ := by
    rcases ho.2 with ⟨_, h0⟩ | ⟨g, cap, cur, e, _⟩
    · omega
    · injection e with e; exact ⟨g, e⟩
  have hn : n = X.length := by
    rcases ho.2 with ⟨_, h0⟩ | ⟨g, cap, cur, e, _⟩
    · omega
    · injection e
  subst hg hn
  have ce : ∀ i, i < 8 → w.cell? ⟨g, j * 8 + i, none⟩ = (vplC X[j])[i]? := fun i hi => by
    rw [ho.cellAt (j * 8 + i) (by omega)]
    exact vplV_at X j hj i hi
  refine ⟨g, xa, xc, rfl, hx, readI_of hc, ce 0 (by omega), ce 1 (by omega), ce 2 (by omega), ce 3 (by omega), ce 4 (by omega), ?_, ce 6 (by omega), ce 7 (by omega)⟩
  rw [ce 5 (by omega), ← hx]
  rfl
set_option maxRecDepth 100000 in
set_option maxHeartbeats 2000000 in
theorem l_eqPlaceS (a b : Option Addr) (c d n : Nat) (X Y : List VPl) (w : World) (ha : RowP w (.slice a n c) X) (hb : RowP w (.slice b n d) Y) (hxy : X.map (·.pp) = Y.map (·.pp)) (hn : X.length = n) (hl : n ≤ 4194304) (hz : ∀ x ∈ X, x.x.p.chain.length ≤ 1048576) :
    Calls Try.prog 18 #[.slice a n c, .slice b n d] w fun e w' => e = .returned (.bool true) ∧ Below w.heap.size w w' := by
  have hyn : Y.length = n := by have := congrArg List.length hxy; simp at this; omega
  have HA := Lib.hid ha
  have HB := Lib.hid hb
  have HXY := Lib.hid hxy
  have HZ := Lib.hid hz
  have HN := Lib.hid (And.intro hn hyn)
  clear ha hb hxy hyn hz hn
  go_enter Try.func18, Try.ntmps18
  go_wp2_with fail
  go_loopw [5] (fun i wr => ∃ (k : Nat), k ≤ n ∧ i = .int .i64 (k : Int) ∧ Below w.heap.size w wr) (fun i _ => n - (RowKit.intOf i).toNat)
  case atStart => exact ⟨0, Nat.zero_le _, rfl, Below.refl _ _⟩
  case round =>
    obtain ⟨k, hk, rfl, hbel⟩ := hrel
    have HBE := Lib.hid hbel
    have hB := hbel.size
    by_cases hlt : k < n
    · have hx1 : k < X.length := by rw [HN.out.1]; exact hlt
      have hy1 : k < Y.length := by rw [HN.out.2]; exact hlt
      obtain ⟨g, xa, xc, rfl, exv, rx, c0, c1, c2, c3, c4, c5, c6, c7⟩ := (HA.out.below hbel).at k hx1
      obtain ⟨g', ya, yc, rfl, eyv, ry, d0, d1, d2, d3, d4, d5, d6, d7⟩ := (HB.out.below hbel).at k hy1
      have hpp : X[k].pp = Y[k].pp := by
        have h1 : (X.map (·.pp))[k]? = (Y.map (·.pp))[k]? := by rw [HXY.out]
        rw [List.getElem?_map, List.getElem?_map, List.getElem?_eq_getElem hx1, List.getElem?_eq_getElem hy1] at h1
        exact Option.some.inj h1
      have hzz := HZ.out _ (List.getElem_mem hx1)
      have hpo : X[k].off = Y[k].off := congrArg PPl.off hpp
      replace hpp : X[k].x.p = Y[k].x.p := congrArg PPl.p hpp
      rw [← hpp] at ry d1 d2 d3 d4 d5 d6 d7
      rw [← hpo] at d0
      obtain ⟨of, hof⟩ : ∃ q, X[k].off = q := ⟨_, rfl⟩
      rw [hof] at c0 d0
      clear hpo hof
      obtain ⟨q, hq⟩ : ∃ q, X[k].x.p = q := ⟨_, rfl⟩
      rw [hq] at rx ry c1 c2 c3 c4 c5 c6 c7 d1 d2 d3 d4 d5 d6 d7 hzz
      obtain ⟨co, ar, li, st, ch, de, en⟩ := q
      dsimp only at rx ry c1 c2 c3 c4 c5 c6 c7 d1 d2 d3 d4 d5 d6 d7 hzz
      have HE := Lib.hid (fun W (hb : Below wr.heap.size wr W) => l_eqPlace of co ar li st ch de en xa ya xc yc W (fun j hj => by
        obtain ⟨g, e, h1, h2⟩ := rx j hj
        exact ⟨g, e, Nat.lt_of_lt_of_le h1 hb.size, (hb.cell (p := ⟨g, j, none⟩) h1).trans h2⟩) (fun j hj => by
        obtain ⟨g, e, h1, h2⟩ := ry j hj
        exact ⟨g, e, Nat.lt_of_lt_of_le h1 hb.size, (hb.cell (p := ⟨g, j, none⟩) h1).trans h2⟩) hzz)
      have k0 : (0 : Int) ≤ (k : Int) := by omega
      have k1 : (k : Int) < (n : Int) := by omega
      have KK : Hid (∀ W, Below wr.heap.size wr W → (W.cell? ⟨g, k * 8, none⟩ = some (.int .i64 of) ∧ W.cell? ⟨g, k * 8 + 1, none⟩ = some (.int .i64 co) ∧ W.cell? ⟨g, k * 8 + 2, none⟩ = some (.int .i64 ar) ∧ W.cell? ⟨g, k * 8 + 3, none⟩ = some (.int .i64 li) ∧ W.cell? ⟨g, k * 8 + 4, none⟩ = some (.bool st) ∧ W.cell? ⟨g, k * 8 + 5, none⟩ = some (.slice xa ch.length xc) ∧ W.cell? ⟨g, k * 8 + 6, none⟩ = some (.int .i64 de) ∧ W.cell? ⟨g, k * 8 + 7, none⟩ = some (.bool en)) ∧ (W.cell? ⟨g', k * 8, none⟩ = some (.int .i64 of) ∧ W.cell? ⟨g', k * 8 + 1, none⟩ = some (.int .i64 co) ∧ W.cell? ⟨g', k * 8 + 2, none⟩ = some (.int .i64 ar) ∧ W.cell? ⟨g', k * 8 + 3, none⟩ = some (.int .i64 li) ∧ W.cell? ⟨g', k * 8 + 4, none⟩ = some (.bool st) ∧ W.cell? ⟨g', k * 8 + 5, none⟩ = some (.slice ya ch.length yc) ∧ W.cell? ⟨g', k * 8 + 6, none⟩ = some (.int .i64 de) ∧ W.cell? ⟨g', k * 8 + 7, none⟩ = some (.bool en))) := Lib.hid (fun W hb => by
        have e : ∀ q j, q < wr.heap.size → W.cell? ⟨q, j, none⟩ = wr.cell? ⟨q, j, none⟩ := fun q j hq => World.cell?_of_block (a := ⟨q, j, none⟩) (hb.block q hq)
        have hg := World.block_lt_of_cell? wr _ c0
        have hg' := World.block_lt_of_cell? wr _ d0
        exact ⟨⟨(e _ _ hg).trans c0, (e _ _ hg).trans c1, (e _ _ hg).trans c2, (e _ _ hg).trans c3, (e _ _ hg).trans c4, (e _ _ hg).trans c5, (e _ _ hg).trans c6, (e _ _ hg).trans c7⟩, ⟨(e _ _ hg').trans d0, (e _ _ hg').trans d1, (e _ _ hg').trans d2, (e _ _ hg').trans d3, (e _ _ hg').trans d4, (e _ _ hg').trans d5, (e _ _ hg').trans d6, (e _ _ hg').trans d7⟩⟩)
      have BD : Hid (Below wr.heap.size wr wr.drew) := Lib.hid (Below.refl _ _).drew
      clear exv eyv
      clear hpp hq rx ry hzz hbel hx1 hy1
      go_wp2_with fail
      go_region_held3 (fun w' => (w'.cell? ⟨g, k * 8, none⟩ = some (.int .i64 of) ∧ w'.cell? ⟨g, k * 8 + 1, none⟩ = some (.int .i64 co) ∧ w'.cell? ⟨g, k * 8 + 2, none⟩ = some (.int .i64 ar) ∧ w'.cell? ⟨g, k * 8 + 3, none⟩ = some (.int .i64 li) ∧ w'.cell? ⟨g, k * 8 + 4, none⟩ = some (.bool st) ∧ w'.cell? ⟨g, k * 8 + 5, none⟩ = some (.slice xa ch.length xc) ∧ w'.cell? ⟨g, k * 8 + 6, none⟩ = some (.int .i64 de) ∧ w'.cell? ⟨g, k * 8 + 7, none⟩ = some (.bool en)) ∧ (w'.cell? ⟨g', k * 8, none⟩ = some (.int .i64 of) ∧ w'.cell? ⟨g', k * 8 + 1, none⟩ = some (.int .i64 co) ∧ w'.cell? ⟨g', k * 8 + 2, none⟩ = some (.int .i64 ar) ∧ w'.cell? ⟨g', k * 8 + 3, none⟩ = some (.int .i64 li) ∧ w'.cell? ⟨g', k * 8 + 4, none⟩ = some (.bool st) ∧ w'.cell? ⟨g', k * 8 + 5, none⟩ = some (.slice ya ch.length yc) ∧ w'.cell? ⟨g', k * 8 + 6, none⟩ = some (.int .i64 de) ∧ w'.cell? ⟨g', k * 8 + 7, none⟩ = some (.bool en))) (first | with_reducible exact KK.out _ BD.out | with_reducible exact KK.out _ HB2.out) (first
        | (go_at_call 48; (with_reducible refine (HE.out _ BD.out).mono ?_); rintro e w1 ⟨rfl, b1⟩; have HB2 : Hid (Below wr.heap.size wr w1) := Lib.hid (BD.out.trans b1); clear b1))
      all_goals
        have HB1 : Hid (Below w.heap.size w w1) := Lib.hid (HBE.out.trans (HB2.out.mono hB))
        clear c0 c1 c2 c3 c4 c5 c6 c7 d0 d1 d2 d3 d4 d5 d6 d7 KK
        go_wp2
        go_roundw
        case rel => exact ⟨k + 1, by omega, by go_num, HB1.out⟩
        case measure => simp [RowKit.intOf]; omega
    · go_wp2
      go_ret
      exact ⟨rfl, HBE.out⟩
end Go.Proofs.Ytakgjlpgcepnkaa
