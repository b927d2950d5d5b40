/- SameLine, of the model and of the program. -/
import Derived.Test.YthmllcpldgbbcaaGreatDoorSameRows
namespace Go.Proofs.YthmllcpldgbbcaaGreatDoor
open Go.RowKit Go.Lib

set_option maxRecDepth 100000 in
set_option maxHeartbeats 1000000 in
theorem s_sameLine (p q : PLine) (a1 a2 b1 b2 : Option Addr) (c1 c2 d1 d2 : Nat) (w : World) (h1 : ReadS w a1 p.args) (h2 : ReadS w a2 q.args) (h3 : ReadT w b1 p.expr) (h4 : ReadT w b2 q.expr)
    (l1 : p.args.length ≤ 2000000) (l2 : q.args.length ≤ 2000000) (l3 : p.expr.length ≤ 2000000) (l4 : q.expr.length ≤ 2000000) :
    Calls Tryz.prog 33 #[.agg #[.int .i64 p.kind, .string p.name, .slice a1 p.args.length c1, .slice b1 p.expr.length d1], .agg #[.int .i64 q.kind, .string q.name, .slice a2 q.args.length c2, .slice b2 q.expr.length d2]] w
      fun e w' => e = .returned (.bool (sameLB p q)) ∧ Below w.heap.size w w' := by
  have H1 := Lib.hid h1
  have H2 := Lib.hid h2
  have H3 := Lib.hid h3
  have H4 := Lib.hid h4
  clear h1 h2 h3 h4
  obtain ⟨k, nm, gs, ex⟩ := p
  obtain ⟨k', nm', gs', ex'⟩ := q
  dsimp only at H1 H2 H3 H4 l1 l2 l3 l4 ⊢
  have T := Lib.hid (two_new w (.cells #[.int .i64 k, .string nm, .slice a1 gs.length c1, .slice b1 ex.length d1] 32) (.cells #[.int .i64 k', .string nm', .slice a2 gs'.length c2, .slice b2 ex'.length d2] 32))
  by_cases hk : k = k'
  case neg =>
    have HV : Hid (sameLB ⟨k, nm, gs, ex⟩ ⟨k', nm', gs', ex'⟩ = false) := Lib.hid (by unfold sameLB; dsimp only; rw [decide_eq_false hk]; rfl)
    have hk1 : (k == k') = false := beq_eq_false_iff_ne.2 hk
    clear hk
    go_enter Tryz.func33, Tryz.ntmps33
    go_wp2
    go_ret
    exact ⟨ret_b HV.out.symm, T.out.2.2.2⟩
  subst hk
  by_cases hn : nm = nm'
  case neg =>
    have HV : Hid (sameLB ⟨k, nm, gs, ex⟩ ⟨k, nm', gs', ex'⟩ = false) := Lib.hid (by unfold sameLB; dsimp only; rw [decide_eq_false hn, decide_eq_true rfl]; rfl)
    have hn1 := str_ne nm nm' hn
    clear hn
    go_enter Tryz.func33, Tryz.ntmps33
    go_wp2
    go_ret
    exact ⟨ret_b HV.out.symm, T.out.2.2.2⟩
  subst hn
  have HV : Hid (sameLB ⟨k, nm, gs, ex⟩ ⟨k, nm, gs', ex'⟩ = (textsB gs gs' && toksB ex ex')) := Lib.hid (by unfold sameLB; dsimp only; rw [decide_eq_true rfl, decide_eq_true rfl]; rfl)
  have S := Lib.hid (fun (W : World) h h' => s_texts a1 a2 c1 c2 gs gs' W h h' l1 l2)
  have S' := Lib.hid (fun (W : World) h h' => s_toks b1 b2 d1 d2 ex ex' W h h' l3 l4)
  obtain ⟨x, hx⟩ : ∃ x, textsB gs gs' = x := ⟨_, rfl⟩
  obtain ⟨y, hy⟩ : ∃ y, toksB ex ex' = y := ⟨_, rfl⟩
  rw [hx] at S HV
  rw [hy] at S' HV
  clear hx hy
  go_enter Tryz.func33, Tryz.ntmps33
  go_wp2_with fail
  refine (S.out _ (H1.out.below T.out.2.2.2) (H2.out.below T.out.2.2.2)).mono ?_
  rintro e w1 ⟨rfl, q1⟩
  obtain ⟨t0, t1, tz, tb⟩ := T.out
  rw [tz] at q1
  have p0 := (q1.block _ (by omega)).trans t0
  have p1 := (q1.block _ (by omega)).trans t1
  have z1 := q1.size
  rw [tz] at z1
  have HB1 : Hid (Below w.heap.size w w1) := Lib.hid (tb.trans (q1.mono (by omega)))
  have e0 : w1.cell? ⟨w.heap.size, 3, none⟩ = some (.slice b1 ex.length d1) := (blk p0).1 3 _ rfl
  have e1 : w1.cell? ⟨w.heap.size + 1, 3, none⟩ = some (.slice b2 ex'.length d2) := (blk p1).1 3 _ rfl
  clear t0 t1 tz tb p0 p1 q1
  cases x
  · go_wp2
    go_ret
    exact ⟨ret_b HV.out.symm, HB1.out⟩
  · go_wp2_with fail
    refine (S'.out _ (H3.out.below HB1.out) (H4.out.below HB1.out)).mono ?_
    rintro e w2 ⟨rfl, q2⟩
    have HB2 : Hid (Below w.heap.size w w2) := Lib.hid (HB1.out.trans (q2.mono (by omega)))
    clear q2
    go_wp2
    go_ret
    exact ⟨ret_b (by rw [HV.out]; rfl), HB2.out⟩

set_option maxRecDepth 100000 in
set_option maxHeartbeats 1000000 in
theorem i_sameLine (p q : PLine) (a1 a2 b1 b2 : Option Addr) (c1 c2 d1 d2 : Nat) (w : World) (h1 : ReadS w a1 p.args) (h2 : ReadS w a2 q.args) (h3 : ReadT w b1 p.expr) (h4 : ReadT w b2 q.expr)
    (l1 : p.args.length ≤ 2000000) (l2 : q.args.length ≤ 2000000) (l3 : p.expr.length ≤ 2000000) (l4 : q.expr.length ≤ 2000000) :
    Calls Tryz.prog 11 #[.agg #[.int .i64 p.kind, .string p.name, .slice a1 p.args.length c1, .slice b1 p.expr.length d1], .agg #[.int .i64 q.kind, .string q.name, .slice a2 q.args.length c2, .slice b2 q.expr.length d2]] w
      fun e w' => e = .returned (.bool (sameLB p q)) ∧ Below w.heap.size w w' := by
  have H1 := Lib.hid h1
  have H2 := Lib.hid h2
  have H3 := Lib.hid h3
  have H4 := Lib.hid h4
  clear h1 h2 h3 h4
  obtain ⟨k, nm, gs, ex⟩ := p
  obtain ⟨k', nm', gs', ex'⟩ := q
  dsimp only at H1 H2 H3 H4 l1 l2 l3 l4 ⊢
  have T := Lib.hid (two_new w (.cells #[.int .i64 k, .string nm, .slice a1 gs.length c1, .slice b1 ex.length d1] 32) (.cells #[.int .i64 k', .string nm', .slice a2 gs'.length c2, .slice b2 ex'.length d2] 32))
  by_cases hk : k = k'
  case neg =>
    have HV : Hid (sameLB ⟨k, nm, gs, ex⟩ ⟨k', nm', gs', ex'⟩ = false) := Lib.hid (by unfold sameLB; dsimp only; rw [decide_eq_false hk]; rfl)
    have hk1 : (k == k') = false := beq_eq_false_iff_ne.2 hk
    clear hk
    go_enter Tryz.func11, Tryz.ntmps11
    go_wp2
    go_ret
    exact ⟨ret_b HV.out.symm, T.out.2.2.2⟩
  subst hk
  by_cases hn : nm = nm'
  case neg =>
    have HV : Hid (sameLB ⟨k, nm, gs, ex⟩ ⟨k, nm', gs', ex'⟩ = false) := Lib.hid (by unfold sameLB; dsimp only; rw [decide_eq_false hn, decide_eq_true rfl]; rfl)
    have hn1 := str_ne nm nm' hn
    clear hn
    go_enter Tryz.func11, Tryz.ntmps11
    go_wp2
    go_ret
    exact ⟨ret_b HV.out.symm, T.out.2.2.2⟩
  subst hn
  have HV : Hid (sameLB ⟨k, nm, gs, ex⟩ ⟨k, nm, gs', ex'⟩ = (textsB gs gs' && toksB ex ex')) := Lib.hid (by unfold sameLB; dsimp only; rw [decide_eq_true rfl, decide_eq_true rfl]; rfl)
  have S := Lib.hid (fun (W : World) h h' => i_eqStrs a1 a2 c1 c2 gs gs' W h h' l1 l2)
  have S' := Lib.hid (fun (W : World) h h' => i_eqToks b1 b2 d1 d2 ex ex' W h h' l3 l4)
  obtain ⟨x, hx⟩ : ∃ x, textsB gs gs' = x := ⟨_, rfl⟩
  obtain ⟨y, hy⟩ : ∃ y, toksB ex ex' = y := ⟨_, rfl⟩
  rw [hx] at S HV
  rw [hy] at S' HV
  clear hx hy
  go_enter Tryz.func11, Tryz.ntmps11
  go_wp2_with fail
  refine (S.out _ (H1.out.below T.out.2.2.2) (H2.out.below T.out.2.2.2)).mono ?_
  rintro e w1 ⟨rfl, q1⟩
  obtain ⟨t0, t1, tz, tb⟩ := T.out
  rw [tz] at q1
  have p0 := (q1.block _ (by omega)).trans t0
  have p1 := (q1.block _ (by omega)).trans t1
  have z1 := q1.size
  rw [tz] at z1
  have HB1 : Hid (Below w.heap.size w w1) := Lib.hid (tb.trans (q1.mono (by omega)))
  have e0 : w1.cell? ⟨w.heap.size, 3, none⟩ = some (.slice b1 ex.length d1) := (blk p0).1 3 _ rfl
  have e1 : w1.cell? ⟨w.heap.size + 1, 3, none⟩ = some (.slice b2 ex'.length d2) := (blk p1).1 3 _ rfl
  clear t0 t1 tz tb p0 p1 q1
  cases x
  · go_wp2
    go_ret
    exact ⟨ret_b HV.out.symm, HB1.out⟩
  · go_wp2_with fail
    refine (S'.out _ (H3.out.below HB1.out) (H4.out.below HB1.out)).mono ?_
    rintro e w2 ⟨rfl, q2⟩
    have HB2 : Hid (Below w.heap.size w w2) := Lib.hid (HB1.out.trans (q2.mono (by omega)))
    clear q2
    go_wp2
    go_ret
    exact ⟨ret_b (by rw [HV.out]; rfl), HB2.out⟩

end Go.Proofs.YthmllcpldgbbcaaGreatDoor
