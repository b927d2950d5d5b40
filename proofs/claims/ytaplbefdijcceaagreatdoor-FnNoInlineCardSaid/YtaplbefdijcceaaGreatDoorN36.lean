/- The model's copies of a row of lines, and its FoldProgram; The program's FoldProgram. -/
import Derived.Test.YtaplbefdijcceaaGreatDoorN07
import Derived.Test.YtaplbefdijcceaaGreatDoorN29
import Derived.Test.YtaplbefdijcceaaGreatDoorN02
import Derived.Test.YtaplbefdijcceaaGreatDoorN34
import Derived.Test.YtaplbefdijcceaaGreatDoorN35
import Derived.Test.YtaplbefdijcceaaGreatDoorN27
import Derived.Test.YtaplbefdijcceaaGreatDoorN06
import Derived.Deep.RegionHeld3
namespace Go.Proofs.YtaplbefdijcceaaGreatDoor
open Go.RowKit Go.Lib
def MadeW (TS TK : TypeId) (B : Nat) (w : World) (X : List LnL) : Prop := ∀ x ∈ X, w.ownsRow B TS 1 x.va x.args.length (strV x.args) ∧ w.ownsRow B TK 3 x.ve x.expr.length (toksV x.expr)
theorem MadeW.nil {TS TK : TypeId} {B : Nat} {w : World} : MadeW TS TK B w [] := fun x h => by cases h
theorem MadeW.below {TS TK : TypeId} {B : Nat} {w w' : World} {X : List LnL} (h : MadeW TS TK B w X) (hb : Below w.heap.size w w') : MadeW TS TK B w' X := fun x hx => ⟨owns_below (h x hx).1 hb, owns3_below (h x hx).2 hb⟩
theorem MadeW.all {TS TK : TypeId} {B : Nat} {w : World} {X : List LnL} (h : MadeW TS TK B w X) : AllIn TS TK w X := fun x hx => ⟨owns_base (h x hx).1, owns_base (h x hx).2⟩
theorem MadeW.app {TS TK : TypeId} {B : Nat} {w : World} {X Y : List LnL} (h : MadeW TS TK B w X) (h' : MadeW TS TK B w Y) : MadeW TS TK B w (X ++ Y) := fun x hx => (List.mem_append.1 hx).elim (h x) (h' x)
theorem MadeW.one {TS TK : TypeId} {B : Nat} {w : World} {x : LnL} (h : w.ownsRow B TS 1 x.va x.args.length (strV x.args) ∧ w.ownsRow B TK 3 x.ve x.expr.length (toksV x.expr)) : MadeW TS TK B w [x] := fun y hy => by rw [List.mem_singleton] at hy; rw [hy]; exact h
theorem MadeW.other {TS TK TL : TypeId} {B B' n s : Nat} {w w' : World} {X : List LnL} {v : Value} {xs : List Value} (h : MadeW TS TK B w X) (hv : w.ownsRow B' TL s v n xs) (hg : w.grownBy w' v.ownBlock) (h1 : TS ≠ TL) (h2 : TK ≠ TL) : MadeW TS TK B w' X :=
  fun x hx => ⟨(h x hx).1.kept hg (rows_apart (h x hx).1 hv h1), (h x hx).2.kept hg (rows_apart (h x hx).2 hv h2)⟩
def LnsW (TL TS TK B : Nat) (ps : List PLine) (w : World) (e : Ending) (w' : World) : Prop :=
  ∃ v X, e = .returned v ∧ w'.ownsRow B TL 4 v X.length (lnsV X) ∧ MadeW TS TK B w' X ∧ plL X = ps ∧ Below w.heap.size w w'
theorem infoLw : (Tryz.prog.info? 42).map (fun i => (i.zero, i.size, i.bytes)) = some (some (.agg #[.int .i64 0, .string ⟨#[]⟩, .slice none 0 0, .slice none 0 0]), 4, 72) := by kernel_rfl
theorem ln_newW (w : World) (x : LnL) (T : TypeId) : ∀ j u, (lnV x)[j]? = some u → (w.alloc (.cells #[.int .i64 x.kind, .string x.name, x.va, x.ve] T)).cell? ((⟨w.heap.size, 0, none⟩ : Addr).add j) = some u :=
  World.news_of_block (cs := (lnV x).toArray) (t := T) (fr := (0, 0)) (heap_alloc_new w _)
theorem below_app7 {B e n s : Nat} {w0 wr w1 : World} {X : Obj} {v : Value} {xs : List Value} (hown : wr.ownsRow B e s v n xs) (hbel : Below B w0 wr) (hB : B ≤ wr.heap.size)
    (hg : (wr.alloc X).grownBy w1 v.ownBlock) : Below B w0 w1 :=
  (hbel.alloc hB X).grown hg (by simp; omega) (fun k hk => (hown.lt k hk).1)
theorem plL_app (X Y : List LnL) : plL (X ++ Y) = plL X ++ plL Y := by simp [plL]
theorem plL_take (X : List LnL) (k : Nat) (h : k < X.length) : plL (X.take (k + 1)) = plL (X.take k) ++ [X[k].p] := by rw [List.take_succ_eq_append_getElem h, plL_app]; rfl
set_option maxRecDepth 100000 in
set_option maxHeartbeats 4000000 in
theorem s_copyAll (a : Option Addr) (cap : Nat) (X : List LnL) (w : World) (hl : X.length ≤ 1048576) (hr : ReadL 9 49 w a X) (hz : SzAl X) :
    Calls Tryz.prog 53 #[.slice a X.length cap] w (LnsW 42 9 49 w.heap.size (plL X) w) := by
  obtain ⟨i0, hi, hz0, hz1, hz2⟩ := info_parts infoLw
  have HR := hid hr
  have HZ := hid hz
  clear hr hz
  go_enter Tryz.func53, Tryz.ntmps53
  go_wp2_with fail
  go_loopw [3, 4] (fun o k wr => ∃ (j : Nat) (Y : List LnL), j ≤ X.length ∧ Y.length = j ∧ k = .int .i64 (j : Int) ∧ Hid (plL Y = plL (X.take j)) ∧ wr.ownsRow w.heap.size 42 4 o Y.length (lnsV Y) ∧ MadeW 9 49 w.heap.size wr Y ∧ Below w.heap.size w wr) (fun _ k _ => X.length - (RowKit.intOf k).toNat)
  case atStart => exact ⟨0, [], Nat.zero_le _, rfl, rfl, hid rfl, World.ownsRow_lit (base := w.heap.size) (e := 42) (size := 4) w #[] 0 (Nat.le_refl _) (by decide) rfl, MadeW.nil, (Below.refl _ _).alloc (Nat.le_refl _) _⟩
  case round =>
    obtain ⟨j, Y, hj, hY, rfl, HP, hown, hmade, hbel⟩ := hrel
    have HO := hid hown
    have HM := hid hmade
    have HB := hid hbel
    have hB := hbel.size
    have HY := hid hY
    have hy : Y.length ≤ 1048576 := by omega
    by_cases hlt : j < X.length
    · obtain ⟨g, rfl, hg, ⟨c0, c1, c2, c3⟩, hm⟩ := (HR.out.below hbel) j hlt
      have hzz := HZ.out _ (List.getElem_mem hlt)
      have CP := hid (s_copyLine X[j] wr hm hzz.2.1 hzz.2.2.2.1)
      have HNX : Hid (plL (X.take (j + 1)) = plL (X.take j) ++ [X[j].p]) := hid (plL_take X j hlt)
      obtain ⟨xa, xb, xc, xd, ea, ee, _, _, _, _⟩ := inMem_shape hm
      have k0 : (0 : Int) ≤ (j : Int) := by omega
      have k1 : (j : Int) < (X.length : Int) := by omega
      obtain ⟨x, hx⟩ : ∃ x, X[j] = x := ⟨_, rfl⟩
      rw [hx] at c0 c1 c2 c3 CP HNX ea ee
      obtain ⟨k, nm, gs, ex, va, ve⟩ := x
      dsimp only at c0 c1 c2 c3 ea ee
      subst ea ee
      have h63 : Y.length + 1 ≤ maxLen := by unfold maxLen; omega
      have hby : (Y.length + 1) * 72 ≤ 140737488355328 := by omega
      clear hown hmade hbel hm hzz hx hY
      go_wp2_with fail
      refine CP.out.mono ?_
      rintro e w1 ⟨va, ve, rfl, O1, O2, b1⟩
      obtain ⟨av, cv, rfl⟩ := owns_shape O1
      obtain ⟨ax, cx, rfl⟩ := owns3_shape O2
      dsimp only at O1 O2 ⊢
      have HB1 : Hid (Below w.heap.size w w1) := hid (HB.out.trans (b1.mono hB))
      have z1 := HB1.out.size
      have HM1 := hid ((HM.out.below b1).app (MadeW.one (x := ⟨k, nm, gs, ex, .slice av gs.length cv, .slice ax ex.length cx⟩) ⟨owns_lo O1 hB, owns_lo O2 hB⟩))
      have hown := (owns3_below HO.out b1)
      have HN := hid (ln_newW w1 ⟨k, nm, gs, ex, .slice av gs.length cv, .slice ax ex.length cx⟩ 42)
      have HN1 := hid (lnV_one ⟨k, nm, gs, ex, .slice av gs.length cv, .slice ax ex.length cx⟩ rfl rfl)
      clear b1 O1 O2 c0 c1 c2 c3
      go_wp2_with (at_builtin; refine wpList_append_own _ rfl _ _ 24 rfl w.heap.size 42 i0 _ 4 72 Tryz.underlying24 hi hz0 hz1 hz2 rfl (by decide) _ _ _ rfl (hown.alloc _) ⟨w1.heap.size, 0, none⟩ 1 1 (lnV ⟨k, nm, gs, ex, .slice av gs.length cv, .slice ax ex.length cx⟩) rfl rfl HN.out HN1.out h63 hby ?c5 ?_)
      case c5 => first | omega | (simp; omega)
      intro v' w3 hown1 hgrow _
      have HO3 := hid (owns_lns (l := Y ++ [⟨k, nm, gs, ex, .slice av gs.length cv, .slice ax ex.length cx⟩]) hown1 (by rw [lnsV_append, lnsV_one]))
      have HB3 : Hid (Below w.heap.size w w3) := hid (below_app7 hown HB1.out z1 hgrow)
      have HM3 := hid ((HM1.out.below ((Below.refl _ _).alloc (Nat.le_refl _) _)).other (hown.alloc _) hgrow (by decide) (by decide))
      have HP3 : Hid (plL (Y ++ [⟨k, nm, gs, ex, .slice av gs.length cv, .slice ax ex.length cx⟩]) = plL (X.take (j + 1))) := hid (by rw [plL_app, HP.out, HNX.out]; rfl)
      clear hown1 hgrow hown
      go_wp2
      go_roundw
      case rel => exact ⟨j + 1, Y ++ [⟨k, nm, gs, ex, .slice av gs.length cv, .slice ax ex.length cx⟩], by omega, by rw [List.length_append, HY.out]; rfl, by go_num, HP3, HO3.out, HM3.out, HB3.out⟩
      case measure => simp [RowKit.intOf]; omega
    · have hjj : j = X.length := by omega
      have HV : Hid (plL Y = plL X) := hid (by have := HP.out; rw [hjj, List.take_length] at this; exact this)
      clear hown hmade hbel hY
      subst hjj
      go_wp2
      go_ret
      exact ⟨_, Y, rfl, HO.out, HM.out, HV.out, HB.out⟩
theorem fold_line {p : List PLine} {Y : List LnL} {j : Nat} (h : plL Y = foldP (p.take j) ++ p.drop j) (hj : j < p.length) : ∃ hy : j < Y.length, Y[j].p = p[j] := by
  have hl := congrArg List.length h
  rw [plL_length, List.length_append, foldP_length, List.length_take, List.length_drop] at hl
  have hy : j < Y.length := by omega
  refine ⟨hy, ?_⟩
  have h1 : (plL Y)[j]? = some Y[j].p := by
    unfold plL
    rw [List.getElem?_map, List.getElem?_eq_getElem hy]
    rfl
  rw [h, List.getElem?_append_right (by rw [foldP_length, List.length_take]; omega), foldP_length, List.length_take, List.getElem?_drop, show j + (j - min j p.length) = j from by omega, List.getElem?_eq_getElem hj] at h1
  exact (Option.some.inj h1).symm
theorem fold_next {p : List PLine} {j : Nat} (hj : j < p.length) : foldP (p.take (j + 1)) ++ p.drop (j + 1) = foldP (p.take j) ++ foldL p[j] :: p.drop (j + 1) := by
  have h : foldP (p.take j ++ [p[j]]) = foldP (p.take j) ++ [foldL p[j]] := by unfold foldP; rw [List.map_append]; rfl
  rw [List.take_succ_eq_append_getElem hj, h, List.append_assoc]
  rfl
theorem fold_stay {p : List PLine} {Y : List LnL} {j : Nat} (h : plL Y = foldP (p.take j) ++ p.drop j) (hj : j < p.length) (he : p[j].expr = []) : plL Y = foldP (p.take (j + 1)) ++ p.drop (j + 1) := by
  rw [fold_next hj, h, List.drop_eq_getElem_cons hj]
  have : foldL p[j] = p[j] := by unfold foldL; rw [he, foldE_nil, ← he]
  rw [this]
theorem fold_put {p : List PLine} {Y : List LnL} {j : Nat} (h : plL Y = foldP (p.take j) ++ p.drop j) (hj : j < p.length) (hy : j < Y.length) (v : Value) :
    plL (Y.take j ++ ⟨Y[j].kind, Y[j].name, Y[j].args, foldE Y[j].expr, Y[j].va, v⟩ :: Y.drop (j + 1)) = foldP (p.take (j + 1)) ++ p.drop (j + 1) := by
  obtain ⟨_, e⟩ := fold_line h hj
  have hl := congrArg List.length h
  rw [plL_length, List.length_append, foldP_length, List.length_take, List.length_drop] at hl
  have h1 : plL (Y.take j) = foldP (p.take j) := by
    have : plL (Y.take j) = (plL Y).take j := by simp [plL, List.map_take]
    rw [this, h, List.take_left' (by rw [foldP_length, List.length_take]; omega)]
  have h2 : plL (Y.drop (j + 1)) = p.drop (j + 1) := by
    have : plL (Y.drop (j + 1)) = (plL Y).drop (j + 1) := by simp [plL, List.map_drop]
    rw [this, h, List.drop_append]
    rw [List.drop_eq_nil_of_le (by rw [foldP_length, List.length_take]; omega), foldP_length, List.length_take, List.drop_drop, List.nil_append]
    congr 1
    omega
  rw [fold_next hj, plL_app, h1]
  congr 1
  have h3 : plL (⟨Y[j].kind, Y[j].name, Y[j].args, foldE Y[j].expr, Y[j].va, v⟩ :: Y.drop (j + 1)) = ⟨Y[j].kind, Y[j].name, Y[j].args, foldE Y[j].expr⟩ :: plL (Y.drop (j + 1)) := rfl
  rw [h3, h2, ← e]
  rfl
theorem lnsV_set3 (A R : List LnL) (x : LnL) (E : List TokL) (v : Value) : (lnsV (A ++ x :: R)).set (A.length * 4 + 3) v = lnsV (A ++ ⟨x.kind, x.name, x.args, E, x.va, v⟩ :: R) := by
  have hl : (lnsV A).length = A.length * 4 := lnsV_length A
  rw [lnsV_append, lnsV_append, List.set_append_right _ _ (by omega), hl, Nat.add_sub_cancel_left]
  rfl
theorem take_put (Y : List LnL) (j : Nat) (hy : j < Y.length) : Y = Y.take j ++ Y[j] :: Y.drop (j + 1) := by
  rw [List.getElem_cons_drop, List.take_append_drop]
theorem ok_expr {p : List PLine} (h : OkI p) {j : Nat} (hj : j < p.length) : p[j].expr = [] ∨ exprB p[j].expr = true := line_expr _ (h.1.2 _ (List.getElem_mem hj))
set_option maxRecDepth 100000 in
set_option maxHeartbeats 4000000 in
theorem s_foldProgram (a : Option Addr) (cap : Nat) (X : List LnL) (w : World) (hl : X.length ≤ 1048576) (hr : ReadL 9 49 w a X) (hz : SzAl X) :
    Calls Tryz.prog 18 #[.slice a X.length cap] w (LnsW 42 9 49 w.heap.size (if pokB (plL X) = true then foldP (plL X) else []) w) := by
  have S := hid (s_progOkB a cap X w hl hr hz)
  have HR := hid hr
  have HCP := hid (fun W h => s_copyAll a cap X W hl h hz)
  have hpl := plL_length X
  have HZ := hid hz
  clear hr hz
  obtain ⟨p, hp⟩ : ∃ p, plL X = p := ⟨_, rfl⟩
  rw [hp] at S HCP hpl ⊢
  have HP := hid hp
  clear hp
  cases hb : pokB p with
  | false =>
    rw [hb] at S
    clear hb
    go_enter Tryz.func18, Tryz.ntmps18
    go_wp2_with fail
    refine S.out.mono ?_
    rintro e w1 ⟨rfl, b1⟩
    have HB := hid (b1.alloc b1.size (.cells #[] 42))
    have HO := hid (World.ownsRow_lit (base := w.heap.size) (e := 42) (size := 4) w1 #[] 0 b1.size (by decide) rfl)
    clear b1
    go_wp2
    go_ret
    exact ⟨_, [], rfl, HO.out, MadeW.nil, rfl, HB.out⟩
  | true =>
    rw [hb] at S
    have HOK := hid ((pokB_iff p).1 hb)
    clear hb
    go_enter Tryz.func18, Tryz.ntmps18
    go_wp2_with fail
    refine S.out.mono ?_
    rintro e w1 ⟨rfl, b1⟩
    have HB1 := hid b1
    have z1 := b1.size
    clear b1
    go_wp2_with fail
    refine (HCP.out _ (HR.out.below HB1.out)).mono ?_
    rintro e w2 ⟨v, Y, rfl, O2, M2, p2, b2⟩
    obtain ⟨ga, gc, rfl⟩ := owns3_shape O2
    have HO2 := hid (owns_lower O2 z1)
    have HM2 : Hid (MadeW 9 49 w.heap.size w2 Y) := hid (fun x hx => ⟨owns_lower (M2 x hx).1 z1, owns_lower (M2 x hx).2 z1⟩)
    have HB2 : Hid (Below w.heap.size w w2) := hid (HB1.out.trans (b2.mono z1))
    have hN : Y.length = p.length := by rw [← p2, plL_length]
    have HPY := hid p2
    clear b2 O2 M2 p2
    obtain ⟨N, hN'⟩ : ∃ N, p.length = N := ⟨_, rfl⟩
    rw [hN'] at hN hpl
    rw [hN] at HO2 ⊢
    have HNP := hid hN'
    have HNY := hid hN
    have hN6 : N ≤ 1048576 := by omega
    clear hN hN' hpl
    go_wp2_with fail
    go_loopw [4] (fun k wr => ∃ (j : Nat) (Y : List LnL), j ≤ N ∧ k = .int .i64 (j : Int) ∧ Hid (Y.length = N) ∧ Hid (plL Y = foldP (p.take j) ++ p.drop j) ∧ wr.ownsRow w.heap.size 42 4 (.slice ga N gc) N (lnsV Y) ∧ MadeW 9 49 w.heap.size wr Y ∧ Below w.heap.size w wr) (fun k _ => N - (RowKit.intOf k).toNat)
    case atStart => exact ⟨0, Y, Nat.zero_le _, rfl, HNY, hid (by rw [HPY.out]; rfl), HO2.out, HM2.out, HB2.out⟩
    case round =>
      obtain ⟨j, Y, hj, rfl, HYN, HYP, hown, hmade, hbel⟩ := hrel
      have HO := hid hown
      have HM := hid hmade
      have HB := hid hbel
      have hB := hbel.size
      by_cases hlt : j < N
      · have hjp : j < p.length := by rw [HNP.out]; exact hlt
        obtain ⟨hy, hyp⟩ := fold_line HYP.out hjp
        have hown' : wr.ownsRow w.heap.size 42 4 (.slice ga Y.length gc) Y.length (lnsV Y) := by rw [HYN.out]; exact hown
        obtain ⟨g, rfl, hg, ⟨c0, c1, c2, c3⟩, hm⟩ := (readL_of hown' hmade.all) j hy
        have hst : p[j].expr = [] → plL Y = foldP (p.take (j + 1)) ++ p.drop (j + 1) := fold_stay HYP.out hjp
        have hpt := fun v => fold_put HYP.out hjp hy v
        have hex := ok_expr HOK.out hjp
        obtain ⟨xa, xb, xc, xd, ea, ee, _, hrt, _, _⟩ := inMem_shape hm
        have he : Y[j].expr = p[j].expr := congrArg PLine.expr hyp
        rw [← he] at hst hex
        have HST := hid hst
        have HPT := hid hpt
        have hl20 : Y[j].expr.length ≤ 20 := by
          rcases hex with h | h
          · rw [h]; simp
          · exact ((exprB_scan _).1 h).1
        have HFE := hid (fun W (h : ReadT W xb Y[j].expr) (hn : NamesT Y[j].expr) => s_foldExpr xb xd Y[j].expr W (by omega) h hn)
        have HTP := hid (take_put Y j hy)
        have HTK := hid (List.length_take (l := Y) (i := j))
        have HRT := hid hrt
        have HEX := hid hex
        have k0 : (0 : Int) ≤ (j : Int) := by omega
        have k1 : (j : Int) < (N : Int) := by omega
        obtain ⟨x, hx⟩ : ∃ x, Y[j] = x := ⟨_, rfl⟩
        rw [hx] at c0 c1 c2 c3 ea ee HST HPT HFE HTP HRT HEX hl20
        have HYJ := hid hy
        have HMX : Hid (x ∈ Y) := hid (by rw [← hx]; exact List.getElem_mem hy)
        rw [ee] at c3
        clear hown hown' hmade hbel hyp hst hpt hex he hm hrt hx
        by_cases h0 : x.expr.length = 0
        · have HN := hid (HST.out (List.length_eq_zero_iff.1 h0))
          have hd : decide (0 < x.expr.length) = false := decide_eq_false (by omega)
          have hd2 : decide ((0 : Int) < (x.expr.length : Int)) = false := decide_eq_false (by omega)
          clear h0
          go_wp2
          go_roundw
          case rel => exact ⟨j + 1, Y, by omega, by go_num, HYN, HN, HO.out, HM.out, HB.out⟩
          case measure => simp [RowKit.intOf]; omega
        · have hxe : exprB x.expr = true := by
            rcases HEX.out with h | h
            · exact absurd (by rw [h]; rfl) h0
            · exact h
          have hnm : NamesT x.expr := expr_names _ hxe
          have FE := hid (HFE.out wr HRT.out hnm)
          rw [if_pos hxe] at FE
          have hd : decide (0 < x.expr.length) = true := decide_eq_true (by omega)
          have hd2 : decide ((0 : Int) < (x.expr.length : Int)) = true := decide_eq_true (by omega)
          clear h0 hxe hnm HFE
          go_wp2_with fail
          refine FE.out.mono ?_
          rintro e w3 ⟨v3, rfl, O3, b3⟩
          obtain ⟨xe, xf, rfl⟩ := owns3_shape O3
          have HO3 := hid (owns3_below HO.out b3)
          have HM3 := hid (HM.out.below b3)
          have HB3 : Hid (Below w.heap.size w w3) := hid (HB.out.trans (b3.mono hB))
          have z3 := HB3.out.size
          have HE3 := hid (owns_lower O3 hB)
          have hgb := HO3.out.lt g rfl
          have hlen : (lnsV Y).length = N * 4 := HO3.out.1
          have cellk : ∃ y, w3.cell? ⟨g, j * 4 + 3, none⟩ = some y := by
            have := HO3.out.cellAt (j * 4 + 3) (by omega)
            rw [this]
            exact ⟨_, List.getElem?_eq_getElem (by omega)⟩
          obtain ⟨z0, e0⟩ := cellk
          have fr := HO3.out.frozenAt
          have S1 := HO3.out.stored (j * 4 + 3) (.slice xe (foldE x.expr).length xf)
          have HPP := hid (HPT.out (.slice xe (foldE x.expr).length xf))
          have HLS : Hid ((lnsV Y).set (j * 4 + 3) (.slice xe (foldE x.expr).length xf) = lnsV (Y.take j ++ ⟨x.kind, x.name, x.args, foldE x.expr, x.va, .slice xe (foldE x.expr).length xf⟩ :: Y.drop (j + 1))) := hid (by
            have h := lnsV_set3 (Y.take j) (Y.drop (j + 1)) x (foldE x.expr) (.slice xe (foldE x.expr).length xf)
            rw [← HTP.out, HTK.out, show min j Y.length = j from by have := HYJ.out; omega] at h
            exact h)
          have HO4 := hid (HLS.out ▸ S1.1)
          have HM4 : Hid (MadeW 9 49 w.heap.size (w3.setCell ⟨g, j * 4 + 3, none⟩ (.slice xe (foldE x.expr).length xf)) (Y.take j ++ ⟨x.kind, x.name, x.args, foldE x.expr, x.va, .slice xe (foldE x.expr).length xf⟩ :: Y.drop (j + 1))) := hid (by
            have h1 := HM3.out.other HO3.out S1.2 (by decide) (by decide)
            have h2 := (HE3.out).kept S1.2 (rows_apart HE3.out HO3.out (by decide))
            refine MadeW.app (fun y hy => h1 y (List.mem_of_mem_take hy)) (fun y hy => ?_)
            rcases List.mem_cons.1 hy with rfl | hy
            · exact ⟨(h1 x HMX.out).1, h2⟩
            · exact h1 y (List.mem_of_mem_drop hy))
          have HB4 : Hid (Below w.heap.size w (w3.setCell ⟨g, j * 4 + 3, none⟩ (.slice xe (foldE x.expr).length xf))) := hid (HB3.out.grown S1.2 z3 (fun k hk => by injection hk with e; omega))
          have HYN4 : Hid ((Y.take j ++ ⟨x.kind, x.name, x.args, foldE x.expr, x.va, .slice xe (foldE x.expr).length xf⟩ :: Y.drop (j + 1) : List LnL).length = N) := hid (by
            have h := HYN.out
            have h2 := HYJ.out
            rw [List.length_append, List.length_cons, List.length_take, List.length_drop]
            omega)
          clear S1 O3 b3 hlen
          go_wp2
          go_roundw
          case rel => exact ⟨j + 1, _, by omega, by go_num, HYN4, HPP, HO4.out, HM4.out, HB4.out⟩
          case measure => simp [RowKit.intOf]; omega
      · have hjj : j = N := by omega
        subst hjj
        have HV : Hid (plL Y = foldP p) := hid (by have := HYP.out; rw [← HNP.out, List.take_length, List.drop_length, List.append_nil] at this; exact this)
        clear hown hmade hbel
        go_wp2
        go_ret
        refine ⟨_, Y, rfl, ?_, HM.out, ?_, HB.out⟩
        · rw [HYN.out]; exact HO.out
        · exact HV.out
end Go.Proofs.YtaplbefdijcceaaGreatDoor

namespace Go.Proofs.YtaplbefdijcceaaGreatDoor
open Go.RowKit Go.Lib
theorem undrF {B : Nat} {w w' : World} (h : Below B w.drew w') : Below B w w' := ⟨h.os, h.tape, h.output, h.size, h.block⟩
theorem foldV_fold (l : List TokL) (h : l = [] ∨ exprB l = true) : foldV l = foldE l := by
  unfold foldV
  rcases h with rfl | h
  · rfl
  · rw [if_pos h]
theorem foldP_take' (p : List PLine) (k : Nat) (h : k < p.length) : foldP (p.take (k + 1)) = foldP (p.take k) ++ [foldL p[k]] := by
  rw [List.take_succ_eq_append_getElem h]
  unfold foldP
  rw [List.map_append]
  rfl
theorem far_cell {w : World} {b c i j : Nat} {u v : Value} (hne : b ≠ c) (h : w.cell? ⟨b, i, none⟩ = some v) : (w.setCell ⟨c, j, none⟩ u).cell? ⟨b, i, none⟩ = some v := (World.cell?_of_block (a := ⟨b, i, none⟩) (set_other hne)).trans h
theorem far_cells {w : World} {b c j0 j1 j2 j3 : Nat} {u0 u1 u2 u3 v0 v1 v2 v3 : Value} (hne : b ≠ c) (h : w.cell? ⟨b, 0, none⟩ = some v0 ∧ w.cell? ⟨b, 1, none⟩ = some v1 ∧ w.cell? ⟨b, 2, none⟩ = some v2 ∧ w.cell? ⟨b, 3, none⟩ = some v3) :
    ((((w.setCell ⟨c, j0, none⟩ u0).setCell ⟨c, j1, none⟩ u1).setCell ⟨c, j2, none⟩ u2).setCell ⟨c, j3, none⟩ u3).cell? ⟨b, 0, none⟩ = some v0 ∧ ((((w.setCell ⟨c, j0, none⟩ u0).setCell ⟨c, j1, none⟩ u1).setCell ⟨c, j2, none⟩ u2).setCell ⟨c, j3, none⟩ u3).cell? ⟨b, 1, none⟩ = some v1 ∧
    ((((w.setCell ⟨c, j0, none⟩ u0).setCell ⟨c, j1, none⟩ u1).setCell ⟨c, j2, none⟩ u2).setCell ⟨c, j3, none⟩ u3).cell? ⟨b, 2, none⟩ = some v2 ∧ ((((w.setCell ⟨c, j0, none⟩ u0).setCell ⟨c, j1, none⟩ u1).setCell ⟨c, j2, none⟩ u2).setCell ⟨c, j3, none⟩ u3).cell? ⟨b, 3, none⟩ = some v3 :=
  ⟨far_cell hne (far_cell hne (far_cell hne (far_cell hne h.1))), far_cell hne (far_cell hne (far_cell hne (far_cell hne h.2.1))), far_cell hne (far_cell hne (far_cell hne (far_cell hne h.2.2.1))), far_cell hne (far_cell hne (far_cell hne (far_cell hne h.2.2.2)))⟩
set_option maxRecDepth 100000 in
set_option maxHeartbeats 4000000 in
theorem i_foldProgram (a : Option Addr) (cap : Nat) (X0 : List LnL) (w : World) (hl : X0.length ≤ 1048576) (hcap : X0.length ≤ cap) (hr : ReadL 9 49 w a X0) (hz : SzAl X0) (hsh : Shapes w) :
    Calls Tryz.prog 50 #[.slice a X0.length cap] w (LnsRes 42 9 49 w.heap.size (if pokB (plL X0) = true then foldP (plL X0) else []) w) := by
  have S := hid (i_progOkB a cap X0 w hl hcap hr hz hsh)
  have HR := hid hr
  have hpl := plL_length X0
  have HZX := hid hz
  have HAT := hid (fun (j : Nat) (h : j < X0.length) (h' : j < (plL X0).length) => pl_at X0 j h h')
  clear hr hz hsh
  obtain ⟨p, hp⟩ : ∃ p, plL X0 = p := ⟨_, rfl⟩
  rw [hp] at S hpl
  have HP := hid hp
  have HATP : Hid (∀ (j : Nat) (h : j < X0.length) (h' : j < p.length), p[j] = X0[j].p) := hid (by subst hp; exact HAT.out)
  rw [hp]
  clear hp HAT
  cases hb : pokB p with
  | false =>
    rw [hb] at S
    clear hb
    go_enter Tryz.func50, Tryz.ntmps50
    go_wp2_with fail
    refine S.out.mono ?_
    rintro e w1 ⟨rfl, b1⟩
    have HB := hid b1
    clear b1
    go_wp2
    go_ret
    exact ⟨_, [], rfl, World.ownsRow_nil _ _ _ _, Made.nil _ _ _ _, rfl, HB.out⟩
  | true =>
    rw [hb] at S
    have HOK := hid ((pokB_iff p).1 hb)
    have h60 := HOK.out.1.1
    clear hb
    obtain ⟨i0, hi, hz0, hz1, hz2⟩ := info_parts infoLn
    have hmk := fun W => run_make_rowN (P := Tryz.prog) 24 42 i0 _ 4 72 Tryz.underlying24 hi hz0 hz1 hz2 .i64 .i64 X0.length X0.length (Nat.le_refl _) (by omega) (by omega) W
    obtain ⟨cs, hcs⟩ : ∃ cs, madeCells (Value.agg #[.int .i64 0, .string ⟨#[]⟩, .slice none 0 0, .slice none 0 0]).cells (X0.length * 4) = cs := ⟨_, rfl⟩
    have hcsz : cs.size = X0.length * 4 := by rw [← hcs, size_madeCells]
    rw [hcs] at hmk
    clear hcs hi hz0 hz1 hz2
    have HZ := hid hcsz
    clear hcsz
    go_enter Tryz.func50, Tryz.ntmps50
    go_wp2_with fail
    refine S.out.mono ?_
    rintro e w1 ⟨rfl, b1⟩
    have HB1 := hid b1
    have z1 := b1.size
    clear b1
    obtain ⟨n, hn⟩ : ∃ n, X0.length = n := ⟨_, rfl⟩
    rw [hn] at hpl hmk HZ
    have HN := hid hn
    have HPN := hid hpl
    have hn6 : n ≤ 60 := by omega
    rw [hn]
    clear hn hpl h60
    go_wp2_with fail
    clear hmk
    go_loopw [4, 5, 14] (fun _ _ i wr => ∃ (k : Nat) (X : List LnL) (R : List Value), k ≤ n ∧ i = .int .i64 (k : Int) ∧ R.length = (n - k) * 4 ∧ X.length = k ∧ Hid (plL X = foldP (p.take k)) ∧ Made 9 49 w.heap.size wr X ∧ wr.ownsRow w.heap.size 42 4 (.slice (some ⟨w1.heap.size, 0, none⟩) n n) n (lnsV X ++ R) ∧ Below w.heap.size w wr) (fun _ _ i _ => n - (RowKit.intOf i).toNat)
    case atStart => exact ⟨0, [], cs.toList, Nat.zero_le _, rfl, by simpa using HZ.out, rfl, hid rfl, Made.nil _ _ _ _, World.ownsRow_lit _ _ _ z1 (by unfold maxLen; omega) HZ.out, HB1.out.alloc z1 _⟩
    case round =>
      obtain ⟨k, X, R, hk, rfl, hR, hX, HPX, hall, hown, hbel⟩ := hrel
      have HO := hid hown
      have HB := hid hbel
      have HAL := hid hall
      have hB := hbel.size
      have hgl : w1.heap.size < wr.heap.size := (hown.lt w1.heap.size rfl).2
      clear hown hall
      by_cases hlt : k < n
      · have hkx : k < X0.length := by rw [HN.out]; exact hlt
        have hkp : k < p.length := by rw [HPN.out]; exact hlt
        obtain ⟨g, rfl, hg, ⟨c0, c1, c2, c3⟩, hm⟩ := (HR.out.below hbel) k hkx
        have hxp := HATP.out k hkx hkp
        have PN := hid (foldP_take' p k hkp)
        have hex := ok_expr HOK.out hkp
        rw [hxp] at PN hex
        have hzz := HZX.out _ (List.getElem_mem hkx)
        obtain ⟨xa, xb, xc, xd, ea, ee, hrs, hrt, hcp, hnl⟩ := inMem_shape hm
        clear hrs hcp hnl
        obtain ⟨y, hy⟩ : ∃ y, X0[k] = y := ⟨_, rfl⟩
        rw [hy] at c0 c1 c2 c3 PN hex hzz ea ee hrt hm
        obtain ⟨y0, y1, y2, y3, R', hRe, hR'⟩ := four R (n - (k + 1)) (by rw [hR]; congr 1; omega)
        subst hRe
        have HR' := hid hR'
        have HMA := hid hm.1
        obtain ⟨kk, nm, gs, ex, va, ve⟩ := y
        dsimp only at c0 c1 c2 c3 PN hex hzz ea ee hrt HMA
        subst ea ee
        have HFV := hid (foldV_fold ex hex)
        have hzz2 : gs.length ≤ 1048576 := hzz.2.1
        have hzz4 : ex.length ≤ 1048576 := hzz.2.2.2.1
        have hnm : NamesI ex := fun j hj => small_max (hzz.2.2.2.2 _ (List.getElem_mem hj))
        have HBA : Hid (Below wr.heap.size wr (wr.alloc (.cells #[.int .i64 kk, .string nm, .slice xa gs.length xc, .slice xb ex.length xd] 42))) := hid ((Below.refl _ _).alloc (Nat.le_refl _) _)
        have hsz : (wr.alloc (.cells #[.int .i64 kk, .string nm, .slice xa gs.length xc, .slice xb ex.length xd] 42)).heap.size = wr.heap.size + 1 := by simp
        have HXA := hid (heap_alloc_new wr (.cells #[.int .i64 kk, .string nm, .slice xa gs.length xc, .slice xb ex.length xd] 42))
        have HCL := hid (x_cloneS (.slice xa gs.length xc) gs ((wr.alloc (.cells #[.int .i64 kk, .string nm, .slice xa gs.length xc, .slice xb ex.length xd] 42)).drew) (owns_below HMA.out (HBA.out.drew)) hzz2)
        have HFE := hid (fun W (hb : Below wr.heap.size wr W) => i_foldExpr xb xd ex W hzz4 (hrt.below hb) hnm)
        have HROW := hid (fun W (hb : Below wr.heap.size wr W) => owns3_below HO.out hb)
        have HS := hid (fun va ve => headL_set X k hX ⟨kk, nm, gs, foldE ex, va, ve⟩ y0 y1 y2 y3 R')
        have HXL := hid hX
        have k0 : (0 : Int) ≤ (k : Int) := by omega
        have k1 : (k : Int) < (n : Int) := by omega
        obtain ⟨fx, hfx⟩ : ∃ fx, foldV ex = fx := ⟨_, rfl⟩
        rw [hfx] at HFE HFV
        have a0 := (blk HXA.out).1 0 (.int .i64 kk) rfl
        have a1 := (blk HXA.out).1 1 (.string nm) rfl
        have a2 := (blk HXA.out).1 2 (.slice xa gs.length xc) rfl
        have a3 := (blk HXA.out).1 3 (.slice xb ex.length xd) rfl
        have KEEP : Hid (∀ W : World, Below (wr.heap.size + 1) (wr.alloc (.cells #[.int .i64 kk, .string nm, .slice xa gs.length xc, .slice xb ex.length xd] 42)) W → W.cell? ⟨wr.heap.size, 0, none⟩ = some (.int .i64 kk) ∧ W.cell? ⟨wr.heap.size, 1, none⟩ = some (.string nm) ∧ W.cell? ⟨wr.heap.size, 2, none⟩ = some (.slice xa gs.length xc) ∧ W.cell? ⟨wr.heap.size, 3, none⟩ = some (.slice xb ex.length xd)) := hid (fun W hb => ⟨(hb.cell (p := ⟨wr.heap.size, _, none⟩) (by dsimp only; omega)).trans a0, (hb.cell (p := ⟨wr.heap.size, _, none⟩) (by dsimp only; omega)).trans a1, (hb.cell (p := ⟨wr.heap.size, _, none⟩) (by dsimp only; omega)).trans a2, (hb.cell (p := ⟨wr.heap.size, _, none⟩) (by dsimp only; omega)).trans a3⟩)
        have hszd : (wr.alloc (.cells #[.int .i64 kk, .string nm, .slice xa gs.length xc, .slice xb ex.length xd] 42)).drew.heap.size = wr.heap.size + 1 := hsz
        have hne : wr.heap.size ≠ w1.heap.size := by omega
        clear hy hm hzz hR hR' hbel hX hxp hkx hkp hex hrt hnm hfx
        go_upto_region 7 with fail
        go_region_held3 (fun w' => w'.cell? ⟨wr.heap.size, 0, none⟩ = some (.int .i64 kk) ∧ w'.cell? ⟨wr.heap.size, 1, none⟩ = some (.string nm) ∧ w'.cell? ⟨wr.heap.size, 2, none⟩ = some (.slice xa gs.length xc) ∧ w'.cell? ⟨wr.heap.size, 3, none⟩ = some (.slice xb ex.length xd)) (first | with_reducible exact KEEP.out _ (Below.refl _ (wr.alloc (.cells #[.int .i64 kk, .string nm, .slice xa gs.length xc, .slice xb ex.length xd] 42))).drew | with_reducible exact KEEP.out _ B4 | with_reducible exact far_cells hne (KEEP.out _ B4) | with_reducible exact KEEP.out _ B3 | go_keep) (first
          | (go_at_call 102; (with_reducible refine HCL.out.mono ?_); rintro e w3 ⟨va', rfl, O3, b3⟩; obtain ⟨av, cv, rfl⟩ := owns_shape O3; rw [hszd] at b3 O3; have B3 : Below (wr.heap.size + 1) (wr.alloc (.cells #[.int .i64 kk, .string nm, .slice xa gs.length xc, .slice xb ex.length xd] 42)) w3 := undrF b3)
          | (go_at_call 103; (with_reducible refine (HFE.out _ (HBA.out.trans (B3.mono (Nat.le_succ _)))).mono ?_); rintro e w4 ⟨ve', rfl, O4, b4, _⟩; obtain ⟨ax, cx, rfl⟩ := owns3_shape O4; have z3 := B3.size; rw [hsz] at z3; have B4 : Below (wr.heap.size + 1) (wr.alloc (.cells #[.int .i64 kk, .string nm, .slice xa gs.length xc, .slice xb ex.length xd] 42)) w4 := B3.trans (b4.mono z3); have HB24 : Below wr.heap.size wr w4 := HBA.out.trans (B4.mono (Nat.le_succ _)); have HO4 := HROW.out _ HB24; have hlen : (lnsV X ++ y0 :: y1 :: y2 :: y3 :: R').length = n * 4 := HO4.1; obtain ⟨s0, e0⟩ : ∃ y, w4.cell? ⟨w1.heap.size, k * 4, none⟩ = some y := by { have := HO4.cellAt (k * 4) (by omega); rw [this]; exact ⟨_, List.getElem?_eq_getElem (by omega)⟩ }; obtain ⟨s1, e1⟩ : ∃ y, w4.cell? ⟨w1.heap.size, k * 4 + 1, none⟩ = some y := by { have := HO4.cellAt (k * 4 + 1) (by omega); rw [this]; exact ⟨_, List.getElem?_eq_getElem (by omega)⟩ }; obtain ⟨s2, e2⟩ : ∃ y, w4.cell? ⟨w1.heap.size, k * 4 + 2, none⟩ = some y := by { have := HO4.cellAt (k * 4 + 2) (by omega); rw [this]; exact ⟨_, List.getElem?_eq_getElem (by omega)⟩ }; obtain ⟨s3, e3⟩ : ∃ y, w4.cell? ⟨w1.heap.size, k * 4 + 3, none⟩ = some y := by { have := HO4.cellAt (k * 4 + 3) (by omega); rw [this]; exact ⟨_, List.getElem?_eq_getElem (by omega)⟩ }; have fr := HO4.frozenAt))
        all_goals
          have S1 := HO4.stored (k * 4) (.int .i64 kk)
          have S2 := S1.1.stored (k * 4 + 1) (.string nm)
          have S3 := S2.1.stored (k * 4 + 2) (.slice av gs.length cv)
          have S4 := S3.1.stored (k * 4 + 3) (.slice ax fx.length cx)
          have HG := hid (((S1.2.trans S2.2).trans S3.2).trans S4.2)
          have HO5 := hid (HS.out (.slice av gs.length cv) (.slice ax fx.length cx) ▸ S4.1)
          have z4 := HB24.size
          have HB4 : Hid (Below w.heap.size w w4) := hid (HB.out.trans (HB24.mono hB))
          have HB5 := hid (HB4.out.grown HG.out (by omega) (fun j hj => by injection hj with e; omega))
          have HOA : Hid (w4.ownsRow (wr.heap.size + 1) 9 1 (.slice av gs.length cv) gs.length (strV gs)) := hid (owns_below O3 b4)
          have HOE : Hid (w4.ownsRow (wr.heap.size + 1) 49 3 (.slice ax fx.length cx) fx.length (toksV fx)) := hid (owns_lower O4 z3)
          have HE5 := hid HFV.out
          have HAL4 : Hid (Made 9 49 w.heap.size w4 (X ++ [⟨kk, nm, gs, foldE ex, .slice av gs.length cv, .slice ax fx.length cx⟩])) := hid (HAL.out.snoc (B' := wr.heap.size + 1) HB24 ⟨HOA.out, by have := HOE.out; rw [HE5.out] at this ⊢; exact this⟩ (by omega) (by omega))
          clear S1 S2 S3 S4 hlen b3 b4 O3 O4 B3 B4
          go_wp2
          go_roundw
          case rel =>
            refine ⟨k + 1, X ++ [⟨kk, nm, gs, foldE ex, .slice av gs.length cv, .slice ax fx.length cx⟩], R', by omega, by go_num, HR'.out, by rw [List.length_append, HXL.out]; rfl, hid ?_, ?_, HO5.out, HB5.out⟩
            · rw [PN.out, ← HPX.out, plL_app]; rfl
            · refine Made.grown (TL := 42) HAL4.out HG.out ?_ (by decide) (by decide)
              rintro g ⟨⟩
              obtain ⟨cur, hcur⟩ := row_block HO4
              exact .inr ⟨cur, hcur⟩
          case measure => simp [RowKit.intOf]; omega
      · have hkk : k = n := by omega
        subst hkk
        have hR0 : R = [] := List.length_eq_zero_iff.1 (by rw [hR]; simp)
        subst hR0
        have HPF : Hid (plL X = foldP p) := hid (by have h := HPX.out; rwa [← HPN.out, List.take_of_length_le (Nat.le_refl _)] at h)
        have HOF : Hid (wr.ownsRow w.heap.size 42 4 (.slice (some ⟨w1.heap.size, 0, none⟩) k k) X.length (lnsV X)) := hid (by have h := HO.out; rw [List.append_nil] at h; rw [hX]; exact h)
        clear hX hR HO hlt hbel
        go_wp2
        go_ret
        exact ⟨_, X, rfl, HOF.out, HAL.out, HPF.out, HB.out⟩
end Go.Proofs.YtaplbefdijcceaaGreatDoor
