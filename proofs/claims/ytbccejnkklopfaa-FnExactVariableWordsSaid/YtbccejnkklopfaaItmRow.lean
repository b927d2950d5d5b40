/- The laws' toItemS and eqItemS. -/
import Derived.Test.YtbccejnkklopfaaItmTo
import Derived.Test.YtbccejnkklopfaaOpEq
import Derived.Test.YtbccejnkklopfaaEqInts
import Derived.Deep.RegionHeld3
namespace Go.Proofs.Ytbccejnkklopfaa
open Go.RowKit Go.Lib

theorem infoItm : (Try.prog.info? 44).map (fun i => (i.zero, i.size, i.bytes)) = some (some (.agg #[.int .i64 0, .int .i64 0, .int .i64 0, .bool false, .slice none 0 0, .int .i64 0, .bool false]), 7, 72) := by kernel_rfl
def pitA (l : List AIt) : List PIt := l.map (·.p)
theorem pitA_next (l : List AIt) (k : Nat) (h : k < l.length) : pitA (l.take (k + 1)) = pitA (l.take k) ++ [l[k].p] := by
  rw [List.take_succ_eq_append_getElem h]
  unfold pitA
  rw [List.map_append]
  rfl
/-- A row of items was returned, in a row of its own from block B on. -/
def ItmsRes (B : Nat) (ps : List PIt) (w : World) (e : Ending) (w' : World) : Prop :=
  ∃ v X, e = .returned v ∧ w'.ownsRow B 44 7 v X.length (vitV X) ∧ MadeI 3 B w' (vchL X) ∧ X.map (·.p) = ps ∧ Below w.heap.size w w'
set_option maxRecDepth 100000 in
set_option maxHeartbeats 2000000 in
theorem l_toItemS (a : Option Addr) (cap : Nat) (l : List AIt) (w : World) (hl : l.length ≤ 1048576) (ha : ArgIts w a l) (hs : ∀ x ∈ l, x.p.chain.length ≤ 1048576) :
    Calls Try.prog 10 #[.slice a l.length cap] w (ItmsRes w.heap.size (pitA l) w) := by
  have HA := Lib.hid ha
  have HSM := Lib.hid hs
  clear ha hs
  obtain ⟨i0, hi, hz0, hz1, hz2⟩ := info_parts infoItm
  have hmk := fun W => run_make_rowN (P := Try.prog) 31 44 i0 _ 7 72 Try.underlying31 hi hz0 hz1 hz2 .i64 .i64 l.length l.length (Nat.le_refl _) (by omega) (by omega) W
  obtain ⟨cs, hcs⟩ : ∃ cs, madeCells (Value.agg #[.int .i64 0, .int .i64 0, .int .i64 0, .bool false, .slice none 0 0, .int .i64 0, .bool false]).cells (l.length * 7) = cs := ⟨_, rfl⟩
  have hcsz : cs.size = l.length * 7 := by rw [← hcs, size_madeCells]
  rw [hcs] at hmk
  clear hcs hi hz0 hz1 hz2
  have HZ := Lib.hid hcsz
  clear hcsz
  go_enter Try.func10, Try.ntmps10
  go_wp2_with fail
  clear hmk
  go_loopw [4] (fun i wr => ∃ (k : Nat) (X : List VIt) (R : List Value), k ≤ l.length ∧ i = .int .i64 (k : Int) ∧ R.length = (l.length - k) * 7 ∧ X.length = k ∧ Hid (X.map (·.p) = pitA (l.take k)) ∧ Hid (MadeI 3 w.heap.size wr (vchL X)) ∧ wr.ownsRow w.heap.size 44 7 (.slice (some ⟨w.heap.size, 0, none⟩) l.length l.length) l.length (vitV X ++ R) ∧ Below w.heap.size w wr) (fun i _ => l.length - (RowKit.intOf i).toNat)
  case atStart => exact ⟨0, [], cs.toList, Nat.zero_le _, rfl, by simpa using HZ.out, rfl, Lib.hid rfl, Lib.hid (MadeI.nil _ _ _), World.ownsRow_lit _ _ _ (Nat.le_refl _) (by unfold maxLen; omega) HZ.out, (Below.refl _ _).alloc (Nat.le_refl _) _⟩
  case round =>
    obtain ⟨k, X, R, hk, rfl, hR, hX, HP, HAL, hown, hbel⟩ := hrel
    have HO := Lib.hid hown
    have HB := Lib.hid hbel
    have hB := hbel.size
    have hgl : w.heap.size < wr.heap.size := (hown.lt w.heap.size rfl).2
    clear hown
    by_cases hlt : k < l.length
    · obtain ⟨x, rfl, hx, c0, c1, c2, c3, c4, c5, c6, hln⟩ := (HA.out.below hbel) k hlt
      have hsm := HSM.out _ (List.getElem_mem hlt)
      have PN := Lib.hid (pitA_next l k hlt)
      obtain ⟨y, hy⟩ : ∃ y, l[k] = y := ⟨_, rfl⟩
      rw [hy] at c0 c1 c2 c3 c4 c5 c6 hln hsm PN
      obtain ⟨y0, y1, y2, y3, y4, y5, y6, R', hRe, hR'⟩ := seven R (l.length - (k + 1)) (by rw [hR]; congr 1; omega)
      subst hRe
      have HR' := Lib.hid hR'
      have HC := Lib.hid (l_toItem y _ hsm hln)
      obtain ⟨⟨co, ar, li, st, ch, de, en⟩, ya, yc⟩ := y
      dsimp only at c0 c1 c2 c3 c4 c5 c6 HC PN
      have HS := Lib.hid (fun v => vit_set X k hX ⟨⟨co, ar, li, st, ch, de, en⟩, v⟩ y0 y1 y2 y3 y4 y5 y6 R')
      have HXL := Lib.hid hX
      have k0 : (0 : Int) ≤ (k : Int) := by omega
      have k1 : (k : Int) < (l.length : Int) := by omega
      clear hy hsm hln hR hR' hbel hX
      go_wp2_with fail
      refine HC.out.mono ?_
      rintro e w1 ⟨va, rfl, O1, b1⟩
      obtain ⟨av, cv, rfl⟩ := owns_shape O1
      have HO1 : Hid (w1.ownsRow w.heap.size 44 7 (.slice (some ⟨w.heap.size, 0, none⟩) l.length l.length) l.length (vitV X ++ y0 :: y1 :: y2 :: y3 :: y4 :: y5 :: y6 :: R')) := Lib.hid (owns_blks HO.out (fun g hg => b1.block g (HO.out.lt g hg).2))
      have HB1 := Lib.hid (HB.out.trans (b1.mono hB))
      have hs1 := b1.size
      have HAL1 : Hid (MadeI 3 w.heap.size w1 (vchL (X ++ [⟨⟨co, ar, li, st, ch, de, en⟩, .slice av ch.length cv⟩]))) := Lib.hid (by
        have e : vchL (X ++ [⟨⟨co, ar, li, st, ch, de, en⟩, .slice av ch.length cv⟩]) = vchL X ++ [⟨ch, .slice av ch.length cv⟩] := by unfold vchL; rw [List.map_append]; rfl
        rw [e]
        exact HAL.out.snoc b1 O1 hB (Nat.le_refl _))
      have HSS := Lib.hid (HS.out (.slice av ch.length cv))
      clear b1 c0 c1 c2 c3 c4 c5 c6 O1
      have hlen : (vitV X ++ y0 :: y1 :: y2 :: y3 :: y4 :: y5 :: y6 :: R').length = l.length * 7 := HO1.out.1
      have cellk : ∀ i, i < 7 → ∃ y, w1.cell? ⟨w.heap.size, k * 7 + i, none⟩ = some y := fun i hi => by
        have := HO1.out.cellAt (k * 7 + i) (by omega)
        rw [this]
        exact ⟨_, List.getElem?_eq_getElem (by omega)⟩
      obtain ⟨z0, e0⟩ := cellk 0 (by omega)
      rw [Nat.add_zero] at e0
      obtain ⟨z1, e1⟩ := cellk 1 (by omega)
      obtain ⟨z2, e2⟩ := cellk 2 (by omega)
      obtain ⟨z3, e3⟩ := cellk 3 (by omega)
      obtain ⟨z4, e4⟩ := cellk 4 (by omega)
      obtain ⟨z5, e5⟩ := cellk 5 (by omega)
      obtain ⟨z6, e6⟩ := cellk 6 (by omega)
      have fr := HO1.out.frozenAt
      have S1 := HO1.out.stored (k * 7) (.int .i64 co)
      have S2 := S1.1.stored (k * 7 + 1) (.int .i64 ar)
      have S3 := S2.1.stored (k * 7 + 2) (.int .i64 li)
      have S4 := S3.1.stored (k * 7 + 3) (.bool st)
      have S5 := S4.1.stored (k * 7 + 4) (.slice av ch.length cv)
      have S6 := S5.1.stored (k * 7 + 5) (.int .i64 de)
      have S7 := S6.1.stored (k * 7 + 6) (.bool en)
      have HO2 := Lib.hid (HSS.out ▸ S7.1)
      have HG := Lib.hid ((((((S1.2.trans S2.2).trans S3.2).trans S4.2).trans S5.2).trans S6.2).trans S7.2)
      have HB2 := Lib.hid (HB1.out.grown HG.out (by omega) (fun j hj => by injection hj with e; omega))
      clear cellk hlen S1 S2 S3 S4 S5 S6 S7
      go_wp2
      go_roundw
      case rel =>
        refine ⟨k + 1, X ++ [⟨⟨co, ar, li, st, ch, de, en⟩, .slice av ch.length cv⟩], R', by omega, by go_num, HR'.out, by rw [List.length_append, HXL.out]; rfl, Lib.hid ?_, Lib.hid ?_, HO2.out, HB2.out⟩
        · rw [PN.out, ← HP.out]; simp
        · refine HAL1.out.kept HG.out (fun x hx g hg e => ?_)
          have hne := ap_types HO1.out (HAL1.out.1 x hx) (by decide)
          exact hne g e hg
      case measure => simp [RowKit.intOf]; omega
    · have hkk : k = l.length := by omega
      subst hkk
      have hR0 : R = [] := List.length_eq_zero_iff.1 (by rw [hR]; simp)
      subst hR0
      have HPF : Hid (X.map (·.p) = pitA l) := Lib.hid (by have h := HP.out; rwa [List.take_of_length_le (Nat.le_refl _)] at h)
      have HOF : Hid (wr.ownsRow w.heap.size 44 7 (.slice (some ⟨w.heap.size, 0, none⟩) l.length l.length) X.length (vitV X)) := Lib.hid (by have h := HO.out; rw [List.append_nil] at h; rw [hX]; exact h)
      clear hX hR HO hlt
      go_wp2
      go_ret
      exact ⟨_, X, rfl, HOF.out, HAL.out, HPF.out, HB.out⟩
set_option maxRecDepth 100000 in
set_option maxHeartbeats 2000000 in
theorem l_eqItem (co ar li : Int) (st : Bool) (ch : List Int) (de : Int) (en : Bool) (a b : Option Addr) (c d : Nat) (w : World) (ha : ReadI w a ch) (hb : ReadI w b ch) (hl : ch.length ≤ 1048576) :
    Calls Try.prog 16 #[.agg #[.int .i64 co, .int .i64 ar, .int .i64 li, .bool st, .slice a ch.length c, .int .i64 de, .bool en], .agg #[.int .i64 co, .int .i64 ar, .int .i64 li, .bool st, .slice b ch.length d, .int .i64 de, .bool en]] w fun e w' => e = .returned (.bool true) ∧ Below w.heap.size w w' := by
  have HA := Lib.hid ha
  have HB := Lib.hid hb
  have HL := Lib.hid hl
  clear ha hb hl
  obtain ⟨w2, hw2⟩ : ∃ W, (w.alloc (.cells #[.int .i64 co, .int .i64 ar, .int .i64 li, .bool st, .slice a ch.length c, .int .i64 de, .bool en] 44)).alloc (.cells #[.int .i64 co, .int .i64 ar, .int .i64 li, .bool st, .slice b ch.length d, .int .i64 de, .bool en] 44) = W := ⟨_, rfl⟩
  have HBW : Hid (Below w.heap.size w w2) := Lib.hid (by rw [← hw2]; exact ((Below.refl _ _).alloc (Nat.le_refl _) _).alloc (by simp) _)
  have HR0 : Hid (w2.heap[w.heap.size]? = some (.cells #[.int .i64 co, .int .i64 ar, .int .i64 li, .bool st, .slice a ch.length c, .int .i64 de, .bool en] 44 (0, 0))) := Lib.hid (by rw [← hw2]; exact (Below.heap_alloc _ _ _ (by simp)).trans (heap_alloc_new w _))
  have HR1 : Hid (w2.heap[w.heap.size + 1]? = some (.cells #[.int .i64 co, .int .i64 ar, .int .i64 li, .bool st, .slice b ch.length d, .int .i64 de, .bool en] 44 (0, 0))) := Lib.hid (by
    rw [← hw2]
    have h := heap_alloc_new (w.alloc (.cells #[.int .i64 co, .int .i64 ar, .int .i64 li, .bool st, .slice a ch.length c, .int .i64 de, .bool en] 44)) (.cells #[.int .i64 co, .int .i64 ar, .int .i64 li, .bool st, .slice b ch.length d, .int .i64 de, .bool en] 44)
    have e : (w.alloc (.cells #[.int .i64 co, .int .i64 ar, .int .i64 li, .bool st, .slice a ch.length c, .int .i64 de, .bool en] 44)).heap.size = w.heap.size + 1 := by simp
    rw [e] at h
    exact h)
  have HWE := Lib.hid hw2
  clear hw2
  go_enter Try.func16, Try.ntmps16
  go_wp2_with fail
  rw [HWE.out]
  refine (l_eqOp co ar w2).mono ?_
  rintro e w3 ⟨rfl, b3⟩
  have q0 := (b3.block _ (blk HR0.out).2.2).trans HR0.out
  have q1 := (b3.block _ (blk HR1.out).2.2).trans HR1.out
  have HB3 : Hid (Below w.heap.size w w3) := Lib.hid (HBW.out.trans (b3.mono HBW.out.size))
  have HQ0 := Lib.hid q0
  have HQ1 := Lib.hid q1
  have HE : Hid (Calls Try.prog 21 #[.slice a ch.length c, .slice b ch.length d] w3 fun e w' => e = .returned (.bool true) ∧ Below w3.heap.size w3 w') := Lib.hid (l_eqInts a b c d ch w3 (fun j hj => by
    obtain ⟨g, e, h1, h2⟩ := HA.out j hj
    exact ⟨g, e, Nat.lt_of_lt_of_le h1 HB3.out.size, (HB3.out.cell (p := ⟨g, j, none⟩) h1).trans h2⟩) (fun j hj => by
    obtain ⟨g, e, h1, h2⟩ := HB.out j hj
    exact ⟨g, e, Nat.lt_of_lt_of_le h1 HB3.out.size, (HB3.out.cell (p := ⟨g, j, none⟩) h1).trans h2⟩) HL.out)
  have c2 : w3.cell? ⟨w.heap.size, 2, none⟩ = some (.int .i64 li) := (blk q0).1 2 _ rfl
  have c3 : w3.cell? ⟨w.heap.size, 3, none⟩ = some (.bool st) := (blk q0).1 3 _ rfl
  have c4 : w3.cell? ⟨w.heap.size, 4, none⟩ = some (.slice a ch.length c) := (blk q0).1 4 _ rfl
  have d2 : w3.cell? ⟨w.heap.size + 1, 2, none⟩ = some (.int .i64 li) := (blk q1).1 2 _ rfl
  have d3 : w3.cell? ⟨w.heap.size + 1, 3, none⟩ = some (.bool st) := (blk q1).1 3 _ rfl
  have d4 : w3.cell? ⟨w.heap.size + 1, 4, none⟩ = some (.slice b ch.length d) := (blk q1).1 4 _ rfl
  clear q0 q1 b3
  go_wp2_with fail
  refine HE.out.mono ?_
  rintro e w4 ⟨rfl, b4⟩
  have q0 := (b4.block _ (blk HQ0.out).2.2).trans HQ0.out
  have q1 := (b4.block _ (blk HQ1.out).2.2).trans HQ1.out
  have HB4 : Hid (Below w.heap.size w w4) := Lib.hid (HB3.out.trans (b4.mono HB3.out.size))
  have x5 : w4.cell? ⟨w.heap.size, 5, none⟩ = some (.int .i64 de) := (blk q0).1 5 _ rfl
  have x6 : w4.cell? ⟨w.heap.size, 6, none⟩ = some (.bool en) := (blk q0).1 6 _ rfl
  have y5 : w4.cell? ⟨w.heap.size + 1, 5, none⟩ = some (.int .i64 de) := (blk q1).1 5 _ rfl
  have y6 : w4.cell? ⟨w.heap.size + 1, 6, none⟩ = some (.bool en) := (blk q1).1 6 _ rfl
  clear q0 q1 b4 c2 c3 c4 d2 d3 d4
  go_wp2
  go_ret
  exact ⟨rfl, HB4.out⟩
/-- A row of items in memory. -/
structure RowI (w : World) (v : Value) (X : List VIt) : Prop where
  own : w.ownsRow 0 44 7 v X.length (vitV X)
  ch : ∀ x ∈ X, w.ownsRow 0 3 1 x.v x.p.chain.length (intV x.p.chain)
theorem RowI.below {w w' : World} {v : Value} {X : List VIt} (h : RowI w v X) (hb : Below w.heap.size w w') : RowI w' v X := ⟨owns_blks h.own (fun g hg => hb.block g (h.own.lt g hg).2), fun x hx => owns_below (h.ch x hx) hb⟩
theorem rowI_of {B B' : Nat} {w : World} {v : Value} {X : List VIt} (h : w.ownsRow B 44 7 v X.length (vitV X)) (hm : MadeI 3 B' w (vchL X)) : RowI w v X := ⟨owns_lo h (Nat.zero_le _), fun x hx => owns_lo (hm.1 ⟨x.p.chain, x.v⟩ (by unfold vchL; exact List.mem_map.2 ⟨x, hx, rfl⟩)) (Nat.zero_le _)⟩
theorem RowI.at {w : World} {a : Option Addr} {n c : Nat} {X : List VIt} (h : RowI w (.slice a n c) X) (j : Nat) (hj : j < X.length) : ∃ g xa xc, a = some ⟨g, 0, none⟩ ∧ X[j].v = .slice xa X[j].p.chain.length xc ∧ ReadI w xa X[j].p.chain ∧
    w.cell? ⟨g, j * 7, none⟩ = some (.int .i64 X[j].p.code) ∧ w.cell? ⟨g, j * 7 + 1, none⟩ = some (.int .i64 X[j].p.arg) ∧ w.cell? ⟨g, j * 7 + 2, none⟩ = some (.int .i64 X[j].p.line) ∧ w.cell? ⟨g, j * 7 + 3, none⟩ = some (.bool X[j].p.start) ∧
    w.cell? ⟨g, j * 7 + 4, none⟩ = some (.slice xa X[j].p.chain.length xc) ∧ w.cell? ⟨g, j * 7 + 5, none⟩ = some (.int .i64 X[j].p.depth) ∧ w.cell? ⟨g, j * 7 + 6, none⟩ = some (.bool X[j].p.ent) := by
  have hc := h.ch _ (List.getElem_mem hj)
  obtain ⟨xa, xc, hx⟩ := owns_shape hc
  rw [hx] at hc
  have ho := h.own
  obtain ⟨g, hg⟩ : ∃ g, a = some ⟨g, 0, none⟩ := by
    rcases ho.2 with ⟨_, h0⟩ | ⟨g, cap, cur, e, _⟩
    · omega
    · injection e with e; exact ⟨g, e⟩
  have hn : n = X.length := by
    rcases ho.2 with ⟨_, h0⟩ | ⟨g, cap, cur, e, _⟩
    · omega
    · injection e
  subst hg hn
  have ce : ∀ i, i < 7 → w.cell? ⟨g, j * 7 + i, none⟩ = (vitC X[j])[i]? := fun i hi => by
    rw [ho.cellAt (j * 7 + i) (by omega)]
    exact vitV_at X j hj i hi
  refine ⟨g, xa, xc, rfl, hx, readI_of hc, ce 0 (by omega), ce 1 (by omega), ce 2 (by omega), ce 3 (by omega), ?_, ce 5 (by omega), ce 6 (by omega)⟩
  rw [ce 4 (by omega), ← hx]
  rfl
set_option maxRecDepth 100000 in
set_option maxHeartbeats 2000000 in
theorem l_eqItemS (a b : Option Addr) (c d n : Nat) (X Y : List VIt) (w : World) (ha : RowI w (.slice a n c) X) (hb : RowI w (.slice b n d) Y) (hxy : X.map (·.p) = Y.map (·.p)) (hn : X.length = n) (hl : n ≤ 4194304) (hz : ∀ x ∈ X, x.p.chain.length ≤ 1048576) :
    Calls Try.prog 12 #[.slice a n c, .slice b n d] w fun e w' => e = .returned (.bool true) ∧ Below w.heap.size w w' := by
  have hyn : Y.length = n := by have := congrArg List.length hxy; simp at this; omega
  have HA := Lib.hid ha
  have HB := Lib.hid hb
  have HXY := Lib.hid hxy
  have HZ := Lib.hid hz
  have HN := Lib.hid (And.intro hn hyn)
  clear ha hb hxy hyn hz hn
  go_enter Try.func12, Try.ntmps12
  go_wp2_with fail
  go_loopw [5] (fun i wr => ∃ (k : Nat), k ≤ n ∧ i = .int .i64 (k : Int) ∧ Below w.heap.size w wr) (fun i _ => n - (RowKit.intOf i).toNat)
  case atStart => exact ⟨0, Nat.zero_le _, rfl, Below.refl _ _⟩
  case round =>
    obtain ⟨k, hk, rfl, hbel⟩ := hrel
    have HBE := Lib.hid hbel
    have hB := hbel.size
    by_cases hlt : k < n
    · have hx1 : k < X.length := by rw [HN.out.1]; exact hlt
      have hy1 : k < Y.length := by rw [HN.out.2]; exact hlt
      obtain ⟨g, xa, xc, rfl, exv, rx, c0, c1, c2, c3, c4, c5, c6⟩ := (HA.out.below hbel).at k hx1
      obtain ⟨g', ya, yc, rfl, eyv, ry, d0, d1, d2, d3, d4, d5, d6⟩ := (HB.out.below hbel).at k hy1
      have hpp : X[k].p = Y[k].p := by
        have h1 : (X.map (·.p))[k]? = (Y.map (·.p))[k]? := by rw [HXY.out]
        rw [List.getElem?_map, List.getElem?_map, List.getElem?_eq_getElem hx1, List.getElem?_eq_getElem hy1] at h1
        exact Option.some.inj h1
      have hzz := HZ.out _ (List.getElem_mem hx1)
      rw [← hpp] at ry d0 d1 d2 d3 d4 d5 d6
      obtain ⟨q, hq⟩ : ∃ q, X[k].p = q := ⟨_, rfl⟩
      rw [hq] at rx ry c0 c1 c2 c3 c4 c5 c6 d0 d1 d2 d3 d4 d5 d6 hzz
      obtain ⟨co, ar, li, st, ch, de, en⟩ := q
      dsimp only at rx ry c0 c1 c2 c3 c4 c5 c6 d0 d1 d2 d3 d4 d5 d6 hzz
      have HE := Lib.hid (fun W (hb : Below wr.heap.size wr W) => l_eqItem co ar li st ch de en xa ya xc yc W (fun j hj => by
        obtain ⟨g, e, h1, h2⟩ := rx j hj
        exact ⟨g, e, Nat.lt_of_lt_of_le h1 hb.size, (hb.cell (p := ⟨g, j, none⟩) h1).trans h2⟩) (fun j hj => by
        obtain ⟨g, e, h1, h2⟩ := ry j hj
        exact ⟨g, e, Nat.lt_of_lt_of_le h1 hb.size, (hb.cell (p := ⟨g, j, none⟩) h1).trans h2⟩) hzz)
      have k0 : (0 : Int) ≤ (k : Int) := by omega
      have k1 : (k : Int) < (n : Int) := by omega
      have KK : Hid (∀ W, Below wr.heap.size wr W → (W.cell? ⟨g, k * 7, none⟩ = some (.int .i64 co) ∧ W.cell? ⟨g, k * 7 + 1, none⟩ = some (.int .i64 ar) ∧ W.cell? ⟨g, k * 7 + 2, none⟩ = some (.int .i64 li) ∧ W.cell? ⟨g, k * 7 + 3, none⟩ = some (.bool st) ∧ W.cell? ⟨g, k * 7 + 4, none⟩ = some (.slice xa ch.length xc) ∧ W.cell? ⟨g, k * 7 + 5, none⟩ = some (.int .i64 de) ∧ W.cell? ⟨g, k * 7 + 6, none⟩ = some (.bool en)) ∧ (W.cell? ⟨g', k * 7, none⟩ = some (.int .i64 co) ∧ W.cell? ⟨g', k * 7 + 1, none⟩ = some (.int .i64 ar) ∧ W.cell? ⟨g', k * 7 + 2, none⟩ = some (.int .i64 li) ∧ W.cell? ⟨g', k * 7 + 3, none⟩ = some (.bool st) ∧ W.cell? ⟨g', k * 7 + 4, none⟩ = some (.slice ya ch.length yc) ∧ W.cell? ⟨g', k * 7 + 5, none⟩ = some (.int .i64 de) ∧ W.cell? ⟨g', k * 7 + 6, none⟩ = some (.bool en))) := Lib.hid (fun W hb => by
        have e : ∀ q j, q < wr.heap.size → W.cell? ⟨q, j, none⟩ = wr.cell? ⟨q, j, none⟩ := fun q j hq => World.cell?_of_block (a := ⟨q, j, none⟩) (hb.block q hq)
        have hg := World.block_lt_of_cell? wr _ c0
        have hg' := World.block_lt_of_cell? wr _ d0
        exact ⟨⟨(e _ _ hg).trans c0, (e _ _ hg).trans c1, (e _ _ hg).trans c2, (e _ _ hg).trans c3, (e _ _ hg).trans c4, (e _ _ hg).trans c5, (e _ _ hg).trans c6⟩, (e _ _ hg').trans d0, (e _ _ hg').trans d1, (e _ _ hg').trans d2, (e _ _ hg').trans d3, (e _ _ hg').trans d4, (e _ _ hg').trans d5, (e _ _ hg').trans d6⟩)
      have BD : Hid (Below wr.heap.size wr wr.drew) := Lib.hid (Below.refl _ _).drew
      clear exv eyv
      clear hpp hq rx ry hzz hbel hx1 hy1
      go_wp2_with fail
      go_region_held3 (fun w' => (w'.cell? ⟨g, k * 7, none⟩ = some (.int .i64 co) ∧ w'.cell? ⟨g, k * 7 + 1, none⟩ = some (.int .i64 ar) ∧ w'.cell? ⟨g, k * 7 + 2, none⟩ = some (.int .i64 li) ∧ w'.cell? ⟨g, k * 7 + 3, none⟩ = some (.bool st) ∧ w'.cell? ⟨g, k * 7 + 4, none⟩ = some (.slice xa ch.length xc) ∧ w'.cell? ⟨g, k * 7 + 5, none⟩ = some (.int .i64 de) ∧ w'.cell? ⟨g, k * 7 + 6, none⟩ = some (.bool en)) ∧ (w'.cell? ⟨g', k * 7, none⟩ = some (.int .i64 co) ∧ w'.cell? ⟨g', k * 7 + 1, none⟩ = some (.int .i64 ar) ∧ w'.cell? ⟨g', k * 7 + 2, none⟩ = some (.int .i64 li) ∧ w'.cell? ⟨g', k * 7 + 3, none⟩ = some (.bool st) ∧ w'.cell? ⟨g', k * 7 + 4, none⟩ = some (.slice ya ch.length yc) ∧ w'.cell? ⟨g', k * 7 + 5, none⟩ = some (.int .i64 de) ∧ w'.cell? ⟨g', k * 7 + 6, none⟩ = some (.bool en))) (first | with_reducible exact KK.out _ BD.out | with_reducible exact KK.out _ HB2.out) (first
        | (go_at_call 16; (with_reducible refine (HE.out _ BD.out).mono ?_); rintro e w1 ⟨rfl, b1⟩; have HB2 : Hid (Below wr.heap.size wr w1) := Lib.hid (BD.out.trans b1); clear b1))
      all_goals
        have HB1 : Hid (Below w.heap.size w w1) := Lib.hid (HBE.out.trans (HB2.out.mono hB))
        clear c0 c1 c2 c3 c4 c5 c6 d0 d1 d2 d3 d4 d5 d6 KK
        go_wp2
        go_roundw
        case rel => exact ⟨k + 1, by omega, by go_num, HB1.out⟩
        case measure => simp [RowKit.intOf]; omega
    · go_wp2
      go_ret
      exact ⟨rfl, HBE.out⟩
end Go.Proofs.Ytbccejnkklopfaa
