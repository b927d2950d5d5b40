/- The model's eval: an expression from a token on, if the expressions and the functions in it are known. -/
import Derived.Test.YtcnnfhcpkbjolaaDoorSvisit
import Derived.Test.YtcnnfhcpkbjolaaDoorPlainR
import Derived.Test.YtcnnfhcpkbjolaaDoorWrapB
import Derived.Test.YtcnnfhcpkbjolaaDoorNtB
import Derived.Deep.AppendLies
import Derived.Deep.LoopGhost
import Derived.StillTailTactics
import Derived.Deep.DeepCutAuto
import Derived.Deep.RegionHeld3
namespace Go.Proofs.YtcnnfhcpkbjolaaDoor
open Go.RowKit Go.Lib

theorem ix_var (l : List ByteArray) (x : ByteArray) (h : x ∈ l) : ixS l x = (varIx l x : Int) ∧ varIx l x < l.length := by
  have hlt : varIx l x < l.length := List.findIdx_lt_length_of_exists ⟨x, h, by simp⟩
  refine ⟨ixS_at l x _ hlt ?_ (fun i hi => ?_), hlt⟩
  · have := List.findIdx_getElem (w := hlt)
    exact of_decide_eq_true this
  · have := List.not_of_lt_findIdx hi
    exact fun e => by simp [e] at this

/-- What an expression comes to. -/
def EvRes (r : RunRes) (e : Ending) (code : Int) : Prop := match r with
  | .val v i => e = .returned (.tuple #[.int .i64 v, .int .i64 (i : Int)]) ∧ code = 0
  | .stop q => (∃ x y : Int, e = .returned (.tuple #[.int .i64 x, .int .i64 y])) ∧ code = q ∧ q ≠ 0
  | _ => False
def PfRes (r : RunRes) (e : Ending) (code : Int) : Prop := match r with
  | .ret v => e = .returned (.int .i64 v) ∧ code = 0
  | .stop q => (∃ x : Int, e = .returned (.int .i64 x)) ∧ code = q ∧ q ≠ 0
  | _ => False
theorem pf_int {r : RunRes} {e : Ending} {code : Int} (h : PfRes r e code) : ∃ x : Int, e = .returned (.int .i64 x) ∧ PfRes r (.returned (.int .i64 x)) code := by
  cases r with
  | ret v => exact ⟨v, h.1, rfl, h.2⟩
  | stop q => obtain ⟨⟨x, hx⟩, h2⟩ := h; exact ⟨x, hx, ⟨x, rfl⟩, h2⟩
  | val v i => exact h.elim
  | vals ws i => exact h.elim
theorem undrewB {B : Nat} {w w' : World} (h : Below B w.drew w') : Below B w w' := ⟨h.os, h.tape, h.output, h.size, h.block⟩
theorem own_caps {B T n s m c : Nat} {a : Option Addr} {w : World} {xs : List Value} (h : w.ownsRow B T s (.slice a m c) n xs) : n ≤ c := by
  rcases h.2 with ⟨_, h0⟩ | ⟨g, cap, cur, e, _, _, hn, _⟩
  · omega
  · injection e with _ _ e3
    omega
def SRes (R : Ending → Int → Prop) (B rb : Nat) (pv : Value) (lim : Int) (c : List Int) (ov vv cv : Value) (X : List IvL) (w : World) (s' : RunS) (e : Ending) (w' : World) : Prop :=
  ∃ code ov' vv' cv' X', R e code ∧ SAt 58 3 28 B rb w' pv lim s' c code ov' vv' cv' X' ∧ Step rb (RM ov vv cv X) (RM ov' vv' cv' X') w w'
/-- What is known of the program that is run. -/
structure ProgS (B : Nat) (pa : Option Addr) (PX : List LnL) (wb : World) : Prop where
  read : ReadL 9 83 wb pa PX
  base : wb.heap.size = B
  ok : OkI (plL PX)
def SEvalOk (B rb : Nat) (pa : Option Addr) (pc : Nat) (PX : List LnL) (lim : Nat) (wb : World) (N : Nat) : Prop :=
  ∀ (c : List Int) (k : Nat) (L : List ByteArray) (vs : List Int) (i : Nat) (s : RunS) (r : RunRes) (s' : RunS) (w : World) (la va : Option Addr) (lc vc : Nat) (ov vv cv : Value) (X : List IvL),
    runF (plL PX) appZ arN lim N (.eval c k L vs i) s = some (r, s') → c.length ≤ 6 → k < PX.length → (∃ q, scanN ((exprAt (plL PX) k).drop i) 1 = some q) → (∀ t ∈ exprAt (plL PX) k, knownP (plL PX) L t) → L.length ≤ 8 → vs.length = L.length → s.vis.length ≤ lim → s.out.length ≤ s.vis.length →
    SAt 58 3 28 B rb w (.slice pa PX.length pc) (lim : Int) s c 0 ov vv cv X → Below B wb w → w.ownsRow 0 9 1 (.slice la L.length lc) L.length (strV L) → w.ownsRow 0 3 1 (.slice va vs.length vc) vs.length (intV vs) → Off (.slice va vs.length vc) (RM ov vv cv X) →
    Calls Tryd.prog 68 #[.pointer (some ⟨rb, 0, none⟩), .int .i64 (k : Int), .int .i64 (i : Int), .slice la L.length lc, .slice va vs.length vc] w (SRes (EvRes r) B rb (.slice pa PX.length pc) (lim : Int) c ov vv cv X w s')
def SPerfOk (B rb : Nat) (pa : Option Addr) (pc : Nat) (PX : List LnL) (lim : Nat) (wb : World) (N : Nat) : Prop :=
  ∀ (c : List Int) (f : Nat) (ws : List Int) (s : RunS) (r : RunRes) (s' : RunS) (w : World) (aa : Option Addr) (ac : Nat) (ov vv cv : Value) (X : List IvL),
    runF (plL PX) appZ arN lim N (.lines c f (locZ (plL PX) (f : Int)) (callVars (plL PX) f ws) (f + 1)) s = some (r, s') → c.length ≤ 6 → f ∈ funs (plL PX) → ws.length = (argsZ (plL PX) (f : Int)).length → s.vis.length ≤ lim → s.out.length ≤ s.vis.length →
    SAt 58 3 28 B rb w (.slice pa PX.length pc) (lim : Int) s c 0 ov vv cv X → Below B wb w → w.ownsRow 0 3 1 (.slice aa ws.length ac) ws.length (intV ws) → Off (.slice aa ws.length ac) (RM ov vv cv X) →
    Calls Tryd.prog 33 #[.pointer (some ⟨rb, 0, none⟩), .int .i64 (f : Int), .slice aa ws.length ac] w (SRes (PfRes r) B rb (.slice pa PX.length pc) (lim : Int) c ov vv cv X w s')

set_option maxRecDepth 100000 in
set_option maxHeartbeats 8000000 in
theorem s_eval_step (B rb : Nat) (pa : Option Addr) (pc : Nat) (PX : List LnL) (lim : Nat) (wb : World) (hp : ProgS B pa PX wb) (hlim : lim ≤ 1000) (n : Nat) (ihE : ∀ m, m ≤ n → SEvalOk B rb pa pc PX lim wb m) (ihP : ∀ m, m ≤ n → SPerfOk B rb pa pc PX lim wb m) : SEvalOk B rb pa pc PX lim wb (n + 1) := by
  intro c k L vs i s r s' w la va lc vc ov vv cv X hrun hc6 hk hscan hknown hL8 hvs hvis hvo hS hB hLo hVo hOff
  have IHE := Lib.hid ihE
  have IHP := Lib.hid ihP
  have HP := Lib.hid hp
  have HS := Lib.hid hS
  have HB := Lib.hid hB
  have HL := Lib.hid hLo
  have HV := Lib.hid hVo
  have HO := Lib.hid hOff
  have hkp : k < (plL PX).length := by rw [plL_length]; exact hk
  obtain ⟨q, hq⟩ := hscan
  obtain ⟨hil, htb, q', hqq, hargs⟩ := scan_one _ _ _ hq
  have htk := tokAt_get (plL PX) k i hil
  obtain ⟨t, ht⟩ : ∃ t, tokAt (plL PX) k i = t := ⟨_, rfl⟩
  rw [ht] at htk
  rw [← htk] at htb hargs
  have hkt := hknown t (by rw [htk]; exact List.getElem_mem hil)
  have hex : exprAt (plL PX) k = PX[k].expr := by rw [exprAt_get _ _ hkp, pl_at PX k hk]; rfl
  have hil2 : i < PX[k].expr.length := by rw [← hex]; exact hil
  have htk2 : PX[k].expr[i] = t := by
    rw [htk]
    simp only [hex]
  obtain ⟨r1, s1, hr1, hcase⟩ := eval_inv hrun
  rw [ht] at hr1 hcase
  have HARGS := Lib.hid hargs
  have HR1 := Lib.hid hr1
  have HCASE := Lib.hid hcase
  have HTB := Lib.hid htb
  have HKT := Lib.hid hkt
  have HEX := Lib.hid hex
  have HVS := Lib.hid hvs
  have HKN := Lib.hid hknown
  have HTN : Hid (t.name.size ≤ maxLen) := Lib.hid (by have := tok_name t htb; unfold maxLen; omega)
  have HAR : Hid (arZ t = ((arN t : Nat) : Int)) := Lib.hid (by have := arZ_pos t htb; unfold arN; omega)
  have har4 : arN t ≤ 4 := by have := (arZ_bd t).2; unfold arN; omega
  obtain ⟨g, hga, hg, ⟨_, _, _, c3⟩, hm⟩ := (hp.read.below (hp.base ▸ hB)) k hk
  obtain ⟨xa, xb, xc, xd, _, ee, _, hrt, _, _⟩ := inMem_shape hm
  rw [ee] at c3
  obtain ⟨ge, hge, hgl, t0, t1, t2⟩ := hrt i hil2
  rw [htk2] at t0 t1 t2
  have e0 : w.cell? ⟨rb, 0, none⟩ = some (.slice pa PX.length pc) := (blk hS.row).1 0 _ rfl
  obtain ⟨I0, hi, hz0, hz1, hz2⟩ := info_parts infoIS
  have hB60 : PX[k].expr.length ≤ 20 := by
    rcases line_expr _ (hp.ok.1.2 _ (List.getElem_mem hkp)) with h | h
    · rw [pl_at PX k hk] at h; have h' : PX[k].expr = [] := h; rw [h']; simp
    · rw [pl_at PX k hk] at h; exact (expr_len _ h).2
  have hPX : PX.length ≤ 60 := by have := hp.ok.1.1; rwa [plL_length] at this
  subst hga hge
  have k0 : (0 : Int) ≤ (k : Int) := by omega
  have k1 : (k : Int) < (PX.length : Int) := by omega
  have i0 : (0 : Int) ≤ (i : Int) := by omega
  obtain ⟨el, hel⟩ : ∃ el, PX[k].expr.length = el := ⟨_, rfl⟩
  have i1 : (i : Int) < (el : Int) := by omega
  rw [hel] at c3 hB60
  clear hel
  clear hrun hS hB hLo hVo hOff hq hqq hargs htb hkt hcase hr1 hex hil hil2 htk htk2 hm ee hrt ihE ihP hp hvs hknown ht
  go_enter Tryd.func68, Tryd.ntmps68
  go_wp2_with fail
  have HW1 : Hid (Below w.heap.size w ((w.alloc (.cells #[.int .i64 t.kind, .int .i64 t.num, .string t.name] 83)).alloc (.cells #[] 3))) := Lib.hid (((Below.refl _ _).alloc (Nat.le_refl _) _).alloc (by simp) _)
  have HA := Lib.hid (s_arity t.kind t.num t.name ((w.alloc (.cells #[.int .i64 t.kind, .int .i64 t.num, .string t.name] 83)).alloc (.cells #[] 3)) HTN.out)
  have HTK1 : Hid (((w.alloc (.cells #[.int .i64 t.kind, .int .i64 t.num, .string t.name] 83)).alloc (.cells #[] 3)).heap[w.heap.size]? = some (.cells #[.int .i64 t.kind, .int .i64 t.num, .string t.name] 83 (0, 0))) := Lib.hid ((Below.heap_alloc _ _ _ (by simp)).trans (heap_alloc_new w _))
  have HO1 : Hid (((w.alloc (.cells #[.int .i64 t.kind, .int .i64 t.num, .string t.name] 83)).alloc (.cells #[] 3)).ownsRow w.heap.size 3 1 (.slice (some ⟨w.heap.size + 1, 0, none⟩) 0 0) 0 []) := Lib.hid (by have := World.ownsRow_lit (e := 3) (size := 1) (base := w.heap.size) (w.alloc (.cells #[.int .i64 t.kind, .int .i64 t.num, .string t.name] 83)) #[] 0 (by simp) (by decide) rfl; simpa using this)
  have z1 : ((w.alloc (.cells #[.int .i64 t.kind, .int .i64 t.num, .string t.name] 83)).alloc (.cells #[] 3)).heap.size = w.heap.size + 1 + 1 := by simp
  refine HA.out.mono ?_
  rintro e w2 ⟨rfl, b2⟩
  rw [show arZ ⟨t.kind, t.num, t.name⟩ = ((arN t : Nat) : Int) from HAR.out]
  have HB2 : Hid (Below w.heap.size w w2) := Lib.hid (HW1.out.trans (b2.mono (by omega)))
  have HTK : Hid (w2.heap[w.heap.size]? = some (.cells #[.int .i64 t.kind, .int .i64 t.num, .string t.name] 83 (0, 0))) := Lib.hid ((b2.block _ (by omega)).trans HTK1.out)
  have HO2 := Lib.hid (owns_below HO1.out b2)
  have HS2 := Lib.hid (HS.out.below HB2.out)
  clear b2 HA HTK1 HO1 z1 t0 t1 t2 c3 e0 HW1
  go_wp2_with fail
  go_loopw [2, 13, 14] (fun xi v xm wr => ∃ (j m : Nat) (acc : List Int) (st : RunS) (ov' vv' cv' : Value) (X' : List IvL), xi = .int .i64 (j : Int) ∧ xm = .int .i64 (m : Int) ∧ m + acc.length ≤ 4 ∧
      Hid (m + acc.length = arN t) ∧ Hid (∃ n' r2, n' ≤ n ∧ runF (plL PX) appZ arN lim n' (.args c k L vs j m) st = some (r2, s1) ∧ pre acc r2 = r1) ∧ Hid (∃ q, scanN ((exprAt (plL PX) k).drop j) m = some q) ∧ Hid (st.vis.length ≤ lim ∧ st.out.length ≤ st.vis.length) ∧
      Hid (SAt 58 3 28 B rb wr (.slice (some ⟨g, 0, none⟩) PX.length pc) (lim : Int) st c 0 ov' vv' cv' X') ∧ Hid (Step rb (RM ov vv cv X) (RM ov' vv' cv' X') w wr) ∧
      Hid (wr.ownsRow w.heap.size 3 1 v acc.length (intV acc)) ∧ Hid (Off v (RM ov' vv' cv' X')) ∧ Hid (wr.heap[w.heap.size]? = some (.cells #[.int .i64 t.kind, .int .i64 t.num, .string t.name] 83 (0, 0)))) (fun _ _ xm _ => (RowKit.intOf xm).toNat)
  case atStart => exact ⟨i + 1, arN t, [], s, ov, vv, cv, X, by push_cast; rfl, rfl, by simpa using har4, Lib.hid (by simp), Lib.hid ⟨n, r1, Nat.le_refl _, HR1.out, pre_nil _⟩, Lib.hid ⟨q', HARGS.out⟩, Lib.hid ⟨hvis, hvo⟩, HS2, Lib.hid (Step.of_below HB2.out), HO2, Lib.hid (HS.out.off_new (fun g hg => by simp only [Value.ownBlock, Option.some.injEq] at hg; omega)), HTK⟩
  case round =>
    obtain ⟨j, m, acc, st, ov', vv', cv', X', rfl, rfl, hm4, HM, HRUN, HSC, HVL, HSR, HST, HOR, HOF, HTK'⟩ := hrel
    have HLr := Lib.hid (HST.out.row HL.out (ne_types HL.out HS.out.row (by decide)) (HS.out.off HL.out (by decide) (by decide)))
    have HVr := Lib.hid (HST.out.row HV.out (ne_types HV.out HS.out.row neS.1) HO.out)
    have HVo := Lib.hid (HST.out.off HV.out HO.out)
    have HBr : Hid (Below B wb wr) := Lib.hid (HB.out.trans (HS.out.base HST.out))
    obtain ⟨av, ac, rfl⟩ := owns_shape HOR.out
    by_cases hm0 : 0 < m
    · obtain ⟨m', rfl⟩ : ∃ m', m = m' + 1 := ⟨m - 1, by omega⟩
      obtain ⟨n', r2, hn', hrun2, hpre⟩ := HRUN.out
      obtain ⟨n'', rfl⟩ : ∃ n'', n' = n'' + 1 := by
        cases n' with
        | zero => exact (no_fuel hrun2).elim
        | succ n'' => exact ⟨n'', rfl⟩
      obtain ⟨re, se, hre, hcs⟩ := args_inv hrun2
      obtain ⟨q, hq⟩ := HSC.out
      obtain ⟨q1, q2, hq1, hq2, _⟩ := scan_next _ _ _ _ hq
      have CALL := Lib.hid (IHE.out n'' (by omega) c k L vs j st re se wr la va lc vc ov' vv' cv' X' hre hc6 hk ⟨q1, hq1⟩ HKN.out hL8 HVS.out HVL.out.1 HVL.out.2 HSR.out HBr.out HLr.out HVr.out HVo.out)
      have HRE := Lib.hid hre
      have HCS := Lib.hid hcs
      have HPRE := Lib.hid hpre
      have HQ1 := Lib.hid hq1
      have HQ2 := Lib.hid hq2
      have HN := Lib.hid hn'
      clear hre hcs hpre hq1 hq2 hn' hrun2 hq HRUN
      go_wp2_with fail
      refine CALL.out.mono ?_
      rintro e w3 ⟨code, ov3, vv3, cv3, X3, hev, hs3, hst3⟩
      have HS3 := Lib.hid hs3
      have HST3 := Lib.hid hst3
      have e5 : w3.cell? ⟨rb, 5, none⟩ = some (.int .i64 code) := (blk hs3.row).1 5 _ rfl
      clear hs3 hst3 CALL
      cases re with
      | vals ws j2 => exact hev.elim
      | ret v => exact hev.elim
      | stop qq =>
        obtain ⟨⟨x, y, rfl⟩, rfl, hq0⟩ := hev
        have hd : (code != 0) = true := by simpa using hq0
        have HQ0 := Lib.hid hq0
        clear hq0
        go_wp2
        go_ret2
        rcases HCS.out with ⟨q', hq', hz⟩ | ⟨v, i1, hv, _⟩
        · injection hq' with hq'
          injection hz with hz1' hz2'
          rcases HCASE.out with ⟨q2, hq2', hz2⟩ | ⟨ws, i2, hv, _⟩
          · have hpr := HPRE.out
            rw [hz1'] at hpr
            rw [hq2'] at hpr
            injection hpr with hpr
            injection hz2 with hr hs'
            subst hr hs'
            rw [hz2']
            exact ⟨code, ov3, vv3, cv3, X3, ⟨⟨_, _, rfl⟩, by rw [← hpr]; exact hq', by rw [← hpr, ← hq']; exact HQ0.out⟩, HS3.out, HST.out.trans HST3.out⟩
          · exfalso
            have hpr := HPRE.out
            rw [hz1', hv] at hpr
            cases hpr
        · cases hv
      | val v j1 =>
        obtain ⟨rfl, rfl⟩ := hev
        have HOR3 := Lib.hid (HST3.out.row HOR.out (ne_types HOR.out HSR.out.row neS.1) HOF.out)
        have HOF3 := Lib.hid (HST3.out.off HOR.out HOF.out)
        have HTK3 := Lib.hid (HSR.out.keep HST3.out HTK'.out (by decide) (by decide) (by decide))
        have z3 : w.heap.size ≤ w3.heap.size := by have := HST.out.size; have := HST3.out.size; omega
        have h63 : acc.length + 1 ≤ maxLen := by unfold maxLen; omega
        have hby : (acc.length + 1) * 8 ≤ 140737488355328 := by omega
        have hd : ((0 : Int) != 0) = false := rfl
        go_wp2_with (at_builtin; refine wpList_append_lies _ rfl _ _ 28 rfl w.heap.size 3 I0 (.int .i64 0) 1 8 Tryd.underlying28 hi hz0 hz1 hz2 rfl (by decide) _ _ _ rfl (HOR3.out.alloc _) ⟨w3.heap.size, 0, none⟩ 1 1 [.int .i64 v] rfl rfl ?c1 ?c2 (by decide) h63 hby ?c5 _ rfl ?_)
        case c1 => exact cell_one_new _ _ _
        case c2 => intro u hu; simp at hu; subst hu; rfl
        case c5 => simp; omega
        intro g4 c4 w4 hown4 hgrow4 hat4 hlt4
        have HSA := Lib.hid (HS3.out.below ((Below.refl w3.heap.size w3).alloc (Nat.le_refl _) (.cells #[.int .i64 v] 3)))
        have HS4 := Lib.hid (HSA.out.kept hgrow4 (ne_types (HOR3.out.alloc _) HSA.out.row neS.1) (off_ne HOF3.out))
        have HOR4 := Lib.hid (owns_ints (l := acc ++ [v]) hown4 (by rw [intV_append]; rfl))
        have HOF4 := Lib.hid (off_lies (n := (acc ++ [v]).length) (c := c4) HOF3.out (fun u hu q hq => by have h := (HSA.out.rows_at u hu q hq).2; simpa using h) hat4)
        have HST4 := Lib.hid (((HST.out.trans HST3.out).on ((Below.refl w3.heap.size w3).alloc (Nat.le_refl _) (.cells #[.int .i64 v] 3))).own hgrow4 (fun q hq => (HOR3.out.lt q hq).1))
        have HTK4 : Hid (w4.heap[w.heap.size]? = some (.cells #[.int .i64 t.kind, .int .i64 t.num, .string t.name] 83 (0, 0))) := Lib.hid ((hgrow4.block _ (by have := (blk HTK3.out).2.2; simp; omega) (fun e => ne_types HOR3.out HTK3.out (by decide) e.symm)).trans ((Below.heap_alloc _ _ _ (blk HTK3.out).2.2).trans HTK3.out))
        have HF1 : Hid (∃ n' r2, n' ≤ n ∧ runF (plL PX) appZ arN lim n' (.args c k L vs j1 m') se = some (r2, s1) ∧ pre (acc ++ [v]) r2 = r1) := Lib.hid (by
          rcases HCS.out with ⟨q', hq', _⟩ | ⟨v', i1, hv, r3, s3, h3, hz⟩
          · cases hq'
          · injection hv with hv1 hv2
            subst hv1 hv2
            injection hz with hz1' hz2'
            refine ⟨n'', r3, by have := HN.out; omega, by rw [h3, hz2'], ?_⟩
            rw [← HPRE.out, hz1', pre_pre])
        have HF2 : Hid (∃ q, scanN ((exprAt (plL PX) k).drop j1) m' = some q) := Lib.hid ⟨q2, by
          have := run_ends n'' (.eval c k L vs j) st _ _ HRE.out q1 HQ1.out
          rw [this]
          exact HQ2.out⟩
        have HVL1 : Hid (se.vis.length ≤ lim ∧ se.out.length ≤ se.vis.length) := Lib.hid ⟨(runF_grown _ _ _ _ _ _ _ _ HRE.out).2.2.1 HVL.out.1, by have h1 := run_outs _ _ _ _ _ _ _ _ _ HRE.out; have h2 := HVL.out.2; unfold Outs at h1; omega⟩
        clear hown4 hgrow4 hat4 hlt4 e5
        go_wp2
        go_roundw
        case rel => exact ⟨j1, m', acc ++ [v], se, ov3, vv3, cv3, X3, rfl, by go_num, by simp; omega, Lib.hid (by have := HM.out; simp; omega), HF1, HF2, HVL1, HS4, HST4, HOR4, HOF4, HTK4⟩
        case measure => simp [RowKit.intOf]
    · have hm00 : m = 0 := by omega
      subst hm00
      have HE : Hid (r1 = .vals acc j ∧ s1 = st) := Lib.hid (by
        obtain ⟨n', r2, _, hrun2, hpre⟩ := HRUN.out
        have h := args_done hrun2
        injection h with h1 h2
        subst h1
        refine ⟨?_, h2⟩
        rw [← hpre]
        simp [pre])
      have HC : Hid (acc.length = arN t ∧ i < j ∧ ((t.kind = 0 → (r, s') = (.val t.num j, st)) ∧ (t.kind = 1 → (r, s') = (.val ((vs[varIx L t.name]?).getD 0) j, st)) ∧ (t.kind = 7 → c.length = 6 → (r, s') = (.stop 2, st)) ∧
          (t.kind = 7 → c.length ≠ 6 → ∃ r2 s2, runF (plL PX) appZ arN lim n (.lines (c ++ [(k : Int)]) (findZ (plL PX) t.name).toNat (locZ (plL PX) (findZ (plL PX) t.name)) (callVars (plL PX) (findZ (plL PX) t.name).toNat acc) ((findZ (plL PX) t.name).toNat + 1)) st = some (r2, s2) ∧ ((∃ q, r2 = .stop q ∧ (r, s') = (.stop q, s2)) ∨ ∃ v, r2 = .ret v ∧ (r, s') = (.val v j, s2))) ∧
          (t.kind ≠ 0 → t.kind ≠ 1 → t.kind ≠ 7 → (r, s') = (.val (appZ t.kind ((acc[0]?).getD 0) ((acc[1]?).getD 0)) j, st)))) := Lib.hid (by
        obtain ⟨h1, h2⟩ := HE.out
        rcases HCASE.out with ⟨q, hq, _⟩ | ⟨ws, i1, hv, hwl, hi1, hh⟩
        · rw [h1] at hq; cases hq
        · rw [h1] at hv
          injection hv with hv1 hv2
          subst hv1 hv2
          rw [h2] at hh
          exact ⟨hwl, hi1, hh⟩)
      have d0 : wr.cell? ⟨w.heap.size, 0, none⟩ = some (.int .i64 t.kind) := (blk HTK'.out).1 0 _ rfl
      have d1 : wr.cell? ⟨w.heap.size, 1, none⟩ = some (.int .i64 t.num) := (blk HTK'.out).1 1 _ rfl
      have d2 : wr.cell? ⟨w.heap.size, 2, none⟩ = some (.string t.name) := (blk HTK'.out).1 2 _ rfl
      clear HRUN HSC HCASE HM
      by_cases h0 : t.kind = 0
      · have HR := Lib.hid (HC.out.2.2.1 h0)
        rw [h0] at d0
        clear h0 d2
        go_wp2
        go_ret2
        have h := HR.out
        injection h with hr hs
        subst hr hs
        exact ⟨0, ov', vv', cv', X', ⟨rfl, rfl⟩, HSR.out, HST.out⟩
      by_cases h1 : t.kind = 1
      · have HR := Lib.hid (HC.out.2.2.2.1 h1)
        have hmem := HKT.out.1 h1
        have hix := ix_var L t.name hmem
        have HIX := Lib.hid (s_l04Index la lc L t.name wr (reads_of HLr.out) (by omega))
        rw [hix.1] at HIX
        obtain ⟨x, hx⟩ : ∃ x, varIx L t.name = x := ⟨_, rfl⟩
        rw [hx] at HIX hix
        rw [hx] at HR
        have hxl : x < vs.length := by have := HVS.out; omega
        obtain ⟨gv, rfl, hgv, hcv⟩ := readI_of HVr.out x hxl
        have HVX : Hid ((vs[x]?).getD 0 = vs[x]) := Lib.hid (by rw [List.getElem?_eq_getElem hxl]; rfl)
        rw [h1] at d0
        have x0 : (0 : Int) ≤ (x : Int) := by omega
        have x1 : (x : Int) < (vs.length : Int) := by omega
        obtain ⟨y, hy⟩ : ∃ y, vs[x] = y := ⟨_, rfl⟩
        rw [hy] at hcv HVX
        clear h0 h1 d1 hmem hix hx hy hxl
        go_wp2_with fail
        refine HIX.out.mono ?_
        rintro e w3 ⟨rfl, b3⟩
        have hcv3 := (b3.cell (p := ⟨gv, x, none⟩) hgv).trans hcv
        have HS3 := Lib.hid (HSR.out.below b3)
        have HST3 := Lib.hid (HST.out.on b3)
        clear b3 d0 d2 hcv HIX
        go_wp2
        go_ret2
        have h := HR.out
        injection h with hr hs
        subst hr hs
        rw [HVX.out]
        exact ⟨0, ov', vv', cv', X', ⟨rfl, rfl⟩, HS3.out, HST3.out⟩
      by_cases h7 : t.kind = 7
      · obtain ⟨ca, cc, rfl⟩ := owns_shape HSR.out.calls
        have e6 : wr.cell? ⟨rb, 6, none⟩ = some (.slice ca c.length cc) := (blk HSR.out.row).1 6 _ rfl
        have e5 : wr.cell? ⟨rb, 5, none⟩ = some (.int .i64 0) := (blk HSR.out.row).1 5 _ rfl
        have f5 : wr.frozen? ⟨rb, 5, none⟩ = false := (blk HSR.out.row).2.1 5
        rw [h7] at d0
        by_cases hc : c.length = 6
        · have HR := Lib.hid (HC.out.2.2.2.2.1 h7 hc)
          have hd : ((c.length : Int) == 6) = true := by rw [hc]; rfl
          clear h0 h1 h7 d1 hc
          go_wp2
          go_ret2
          have h := HR.out
          injection h with hr hs
          subst hr hs
          exact ⟨2, ov', vv', .slice ca c.length cc, X', ⟨⟨_, _, rfl⟩, rfl, by decide⟩, HSR.out.coded neS.1 neS.2.1 2, HST.out.trans (Step.of_set (fun v hv g hg => .inl ⟨v, hv, hg⟩))⟩
        · have HR := Lib.hid (HC.out.2.2.2.2.2.1 h7 hc)
          have HKF := Lib.hid (HKT.out.2 h7)
          have H7 := Lib.hid h7
          have hd : ((c.length : Int) == 6) = false := by simp; omega
          clear h0 h1 h7 d1
          have h63 : c.length + 1 ≤ maxLen := by unfold maxLen; omega
          have hby : (c.length + 1) * 8 ≤ 140737488355328 := by omega
          have HCL := Lib.hid HSR.out.calls
          obtain ⟨f', hf'⟩ := Int.eq_ofNat_of_zero_le HKF.out.1
          have HFU := Lib.hid (findZ_fun _ _ _ hf')
          have HFZ := Lib.hid hf'
          have HAL : Hid (acc.length = (argsZ (plL PX) (f' : Int)).length) := Lib.hid (by
            have h1 := HKF.out.2
            rw [hf'] at h1
            have h2 := HC.out.1
            have h3 := HAR.out
            obtain ⟨tk, tn, tm⟩ := t
            have h4 := HR.out
            have hk7 : tk = 7 := H7.out
            subst hk7
            rw [arZ_7 _ _ HTB.out] at h3
            simp only at h1
            omega)
          clear hf'
          go_wp2_with (at_builtin; refine wpList_append_lies _ rfl _ _ 28 rfl B 3 I0 (.int .i64 0) 1 8 Tryd.underlying28 hi hz0 hz1 hz2 rfl (by decide) _ _ _ rfl (HCL.out.alloc _) ⟨wr.heap.size, 0, none⟩ 1 1 [.int .i64 (k : Int)] rfl rfl ?c1 ?c2 (by decide) h63 hby ?c5 _ rfl ?_)
          case c1 => exact cell_one_new _ _ _
          case c2 => intro u hu; simp at hu; subst hu; rfl
          case c5 => have := HSR.out.lo; have := HSR.out.lt; simp; omega
          intro g4 c4 w4 hown4 hgrow4 hat4 hlt4
          have HSA := Lib.hid (HSR.out.below ((Below.refl wr.heap.size wr).alloc (Nat.le_refl _) (.cells #[.int .i64 (k : Int)] 3)))
          have PUSH := Lib.hid (HSA.out.push (k := (k : Int)) neS.1 neS.2.1 neS.2.2 hgrow4 (by rw [intV_append]; exact hown4) (fun q hq => by simp only [Value.ownBlock, Option.some.injEq] at hq; subst hq; rcases hat4 with h | h; exact .inl h; exact .inr (by simp; omega)))
          have er6 : w4.cell? ⟨rb, 6, none⟩ = some (.slice ca c.length cc) := (hgrow4.cell (a := ⟨rb, 6, none⟩) ((blk HSA.out.row).1 6 _ rfl) (fun e => HSA.out.ne_c neS.1 e.symm))
          have f6 : w4.frozen? ⟨rb, 6, none⟩ = false := by rw [World.frozen?_of_block (hgrow4.block rb HSA.out.lt (fun e => HSA.out.ne_c neS.1 e.symm))]; exact (blk HSA.out.row).2.1 6
          clear hown4 hgrow4 hat4 hlt4 e5 e6 f5 d0
          go_upto_region 22 with fail
          obtain ⟨w5, hw5⟩ : ∃ W, w4.setCell ⟨rb, 6, none⟩ (.slice (some ⟨g4, 0, none⟩) (c.length + 1) c4) = W := ⟨_, rfl⟩
          rw [hw5] at PUSH
          rw [hw5]
          clear hw5 er6 f6
          obtain ⟨r2, s2, hr2, hfin⟩ := HR.out
          have HR2 := Lib.hid hr2
          have HFIN := Lib.hid hfin
          have HS5 := Lib.hid PUSH.out.1
          have HST5 := Lib.hid ((HST.out.on ((Below.refl wr.heap.size wr).alloc (Nat.le_refl _) (.cells #[.int .i64 (k : Int)] 3))).trans PUSH.out.2)
          have HOR5 := Lib.hid (PUSH.out.2.row (HOR.out.alloc _) (ne_types (HOR.out.alloc _) HSA.out.row neS.1) HOF.out)
          have HOF5 := Lib.hid (PUSH.out.2.off (HOR.out.alloc (.cells #[.int .i64 (k : Int)] 3)) HOF.out)
          have HTK5 := Lib.hid (HSA.out.keep PUSH.out.2 ((Below.heap_alloc _ _ _ (blk HTK'.out).2.2).trans HTK'.out) (by decide) (by decide) (by decide))
          have HB5 : Hid (Below B wb w5) := Lib.hid (HB.out.trans (HS.out.base HST5.out))
          have HVL5 := Lib.hid HVL.out.1
          have HVO5 := Lib.hid HVL.out.2
          clear hr2 hfin HR PUSH HSA HCL
          have HFF : Hid (∀ W, Below w5.heap.size w5 W → Calls Tryd.prog 26 #[.slice (some ⟨g, 0, none⟩) PX.length pc, .string t.name] W fun e w' => e = .returned (.int .i64 (f' : Int)) ∧ Below W.heap.size W w') := Lib.hid (fun W hb => by
            have h := s_findFn (some ⟨g, 0, none⟩) pc PX t.name W (by omega) ((HP.out.read.below (HP.out.base ▸ HB5.out)).below hb)
            rw [HFZ.out] at h
            exact h)
          have CALLP : Hid (∀ W, Below w5.heap.size w5 W → Calls Tryd.prog 33 #[.pointer (some ⟨rb, 0, none⟩), .int .i64 (f' : Int), .slice av acc.length ac] W fun e w' => ∃ (x code : Int) (ov7 vv7 cv7 : Value) (X7 : List IvL), e = .returned (.int .i64 x) ∧ Hid (PfRes r2 (.returned (.int .i64 x)) code) ∧ Hid (SAt 58 3 28 B rb w' (.slice (some ⟨g, 0, none⟩) PX.length pc) (lim : Int) s2 (c ++ [(k : Int)]) code ov7 vv7 cv7 X7) ∧ Hid (Step rb (RM ov' vv' (.slice (some ⟨g4, 0, none⟩) (c.length + 1) c4) X') (RM ov7 vv7 cv7 X7) w5 w')) := Lib.hid (fun W hb => by
            refine (IHP.out n (Nat.le_refl _) (c ++ [(k : Int)]) f' acc st r2 s2 W av ac ov' vv' _ X' ?_ (by simp; omega) HFU.out HAL.out HVL5.out HVO5.out (HS5.out.below hb) (HB5.out.trans (hb.mono (by have := HB5.out.size; have := HP.out.base; have := HS5.out.lo; have := HS5.out.lt; omega))) (owns_lo (owns_below HOR5.out hb) (Nat.zero_le _)) HOF5.out).mono ?_
            · have h := HR2.out
              rw [HFZ.out] at h
              exact h
            · rintro e w' ⟨code, ov7, vv7, cv7, X7, hr, h1, h2⟩
              obtain ⟨x, he, hr'⟩ := pf_int hr
              exact ⟨x, code, ov7, vv7, cv7, X7, he, Lib.hid hr', Lib.hid h1, Lib.hid ((Step.of_below hb).trans h2)⟩)
          have KEEP5 : Hid (∀ W, Below w5.heap.size w5 W → (W.cell? ⟨rb, 0, none⟩ = some (.slice (some ⟨g, 0, none⟩) PX.length pc) ∧ W.cell? ⟨w.heap.size, 2, none⟩ = some (.string t.name))) := Lib.hid (fun W hb => ⟨(blk (HS5.out.below hb).row).1 0 _ rfl, (blk ((hb.block _ (blk HTK5.out).2.2).trans HTK5.out)).1 2 _ rfl⟩)
          have KEEP7 : Hid (∀ W M7 pv7 lim7 s7 c7 code7 ov7 vv7 cv7 X7, pv7 = .slice (some ⟨g, 0, none⟩) PX.length pc → Step rb (RM ov' vv' (.slice (some ⟨g4, 0, none⟩) (c.length + 1) c4) X') M7 w5 W → SAt 58 3 28 B rb W pv7 lim7 s7 c7 code7 ov7 vv7 cv7 X7 → (W.cell? ⟨rb, 0, none⟩ = some (.slice (some ⟨g, 0, none⟩) PX.length pc) ∧ W.cell? ⟨w.heap.size, 2, none⟩ = some (.string t.name))) := Lib.hid (fun W M7 pv7 lim7 s7 c7 code7 ov7 vv7 cv7 X7 hpv hs h => ⟨by rw [← hpv]; exact (blk h.row).1 0 _ rfl, (blk (HS5.out.keep hs HTK5.out (by decide) (by decide) (by decide))).1 2 _ rfl⟩)
          go_region_held3 (fun w' => w'.cell? ⟨rb, 0, none⟩ = some (.slice (some ⟨g, 0, none⟩) PX.length pc) ∧ w'.cell? ⟨w.heap.size, 2, none⟩ = some (.string t.name)) (first | exact KEEP5.out _ (Below.refl w5.heap.size w5).drew | exact KEEP5.out _ (undrew b6) | exact KEEP7.out _ _ _ _ _ _ _ _ _ _ _ rfl HST7.out HS7.out) (first
            | (go_at_call 26; ((with_reducible refine (HFF.out _ (Below.refl w5.heap.size w5).drew).mono ?_); rintro e w6 ⟨rfl, b6⟩))
            | (go_at_call 33; ((with_reducible refine (CALLP.out _ (undrew b6)).mono ?_); rintro e w7 ⟨x, code7, ov7, vv7, cv7, X7, rfl, HPF, HS7, HST7⟩)))
          obtain ⟨ca7, cc7, rfl⟩ := owns_shape HS7.out.calls
          have hcap := own_caps HS7.out.calls
          have KEEP8 : Hid (∀ W, Below w7.heap.size w7 W → W.cell? ⟨rb, 6, none⟩ = some (.slice ca7 (c.length + 1) cc7)) := Lib.hid (fun W hb => by have h := (blk (HS7.out.below hb).row).1 6 _ rfl; simpa using h)
          have POP := Lib.hid ((HS7.out.below (Below.refl w7.heap.size w7).drew).pop neS.1 neS.2.1)
          have hc0 : (0 : Int) ≤ (c.length : Int) := by omega
          have hc1 : (c.length : Int) ≤ (cc7 : Int) := by simp at hcap; omega
          have hsub : IntKind.i64.wrap (c.length : Int) = (c.length : Int) := IntWalk.i64_in _ (by omega)
          clear KEEP5 KEEP7 CALLP HFF
          go_wp2_with fail
          refine E_start (S := fun w' => w'.cell? ⟨rb, 6, none⟩ = some (.slice ca7 (c.length + 1) cc7)) 14 (by kernel_rfl) (KEEP8.out _ (Below.refl w7.heap.size w7).drew) (fun hHeld => ?_)
          refine E_take (i := 0) (oi := _) (v := ?_) rfl (by kernel_rfl) (fun _ _ _ h => h) ?_ (by assumption) ?_
          rotate_left 1
          · first | (refine Or.inl ⟨by rfl, ?_⟩; intro w hSw; (try dsimp only at hSw); (try simp only [List.getElem_toArray, List.getElem_cons_zero, List.getElem_cons_succ]); go_simp; done) | (refine Or.inl ⟨by rfl, ?_⟩; intro w hSw; (try dsimp only at hSw); (try simp only [List.getElem_toArray, List.getElem_cons_zero, List.getElem_cons_succ]); go_simp; with_reducible rfl)
          try simp only [Act.put, List.setIfInBounds_toArray, List.set_cons_zero, List.set_cons_succ, List.getElem_toArray, List.getElem_cons_zero, List.getElem_cons_succ]
          refine E_take (i := 1) (oi := _) (v := ?_) rfl (by kernel_rfl) (fun _ _ _ h => h) ?_ (by assumption) ?_
          rotate_left 1
          · first | (refine Or.inl ⟨by rfl, ?_⟩; intro w hSw; (try dsimp only at hSw); (try simp only [List.getElem_toArray, List.getElem_cons_zero, List.getElem_cons_succ]); go_simp; done) | (refine Or.inl ⟨by rfl, ?_⟩; intro w hSw; (try dsimp only at hSw); (try simp only [List.getElem_toArray, List.getElem_cons_zero, List.getElem_cons_succ]); go_simp; with_reducible rfl)
          try simp only [Act.put, List.setIfInBounds_toArray, List.set_cons_zero, List.set_cons_succ, List.getElem_toArray, List.getElem_cons_zero, List.getElem_cons_succ]
          refine E_take (i := 2) (oi := _) (v := ?_) rfl (by kernel_rfl) (fun _ _ _ h => h) ?_ (by assumption) ?_
          rotate_left 1
          · first | (refine Or.inl ⟨by rfl, ?_⟩; intro w hSw; (try dsimp only at hSw); (try simp only [List.getElem_toArray, List.getElem_cons_zero, List.getElem_cons_succ]); go_simp; done) | (refine Or.inl ⟨by rfl, ?_⟩; intro w hSw; (try dsimp only at hSw); (try simp only [List.getElem_toArray, List.getElem_cons_zero, List.getElem_cons_succ]); go_simp; with_reducible rfl)
          try simp only [Act.put, List.setIfInBounds_toArray, List.set_cons_zero, List.set_cons_succ, List.getElem_toArray, List.getElem_cons_zero, List.getElem_cons_succ]
          refine E_take (i := 3) (oi := _) (v := ?_) rfl (by kernel_rfl) (fun _ _ _ h => h) ?_ (by assumption) ?_
          rotate_left 1
          · first | (refine Or.inl ⟨by rfl, ?_⟩; intro w hSw; (try dsimp only at hSw); (try simp only [List.getElem_toArray, List.getElem_cons_zero, List.getElem_cons_succ]); go_simp; done) | (refine Or.inl ⟨by rfl, ?_⟩; intro w hSw; (try dsimp only at hSw); (try simp only [List.getElem_toArray, List.getElem_cons_zero, List.getElem_cons_succ]); go_simp; with_reducible rfl)
          try simp only [Act.put, List.setIfInBounds_toArray, List.set_cons_zero, List.set_cons_succ, List.getElem_toArray, List.getElem_cons_zero, List.getElem_cons_succ]
          refine E_take (i := 4) (oi := _) (v := ?_) rfl (by kernel_rfl) (fun _ _ _ h => h) ?_ (by assumption) ?_
          rotate_left 1
          · first | (refine Or.inl ⟨by rfl, ?_⟩; intro w hSw; (try dsimp only at hSw); (try simp only [List.getElem_toArray, List.getElem_cons_zero, List.getElem_cons_succ]); go_simp; done) | (refine Or.inl ⟨by rfl, ?_⟩; intro w hSw; (try dsimp only at hSw); (try simp only [List.getElem_toArray, List.getElem_cons_zero, List.getElem_cons_succ]); go_simp; with_reducible rfl)
          try simp only [Act.put, List.setIfInBounds_toArray, List.set_cons_zero, List.set_cons_succ, List.getElem_toArray, List.getElem_cons_zero, List.getElem_cons_succ]
          refine E_take (i := 5) (oi := _) (v := ?_) rfl (by kernel_rfl) (fun _ _ _ h => h) ?_ (by assumption) ?_
          rotate_left 1
          · first | (refine Or.inl ⟨by rfl, ?_⟩; intro w hSw; (try dsimp only at hSw); (try simp only [List.getElem_toArray, List.getElem_cons_zero, List.getElem_cons_succ]); go_simp; done) | (refine Or.inl ⟨by rfl, ?_⟩; intro w hSw; (try dsimp only at hSw); (try simp only [List.getElem_toArray, List.getElem_cons_zero, List.getElem_cons_succ]); go_simp; with_reducible rfl)
          try simp only [Act.put, List.setIfInBounds_toArray, List.set_cons_zero, List.set_cons_succ, List.getElem_toArray, List.getElem_cons_zero, List.getElem_cons_succ]
          refine E_take (i := 6) (oi := _) (v := ?_) rfl (by kernel_rfl) (fun _ _ _ h => h) ?_ (by assumption) ?_
          rotate_left 1
          · first | (refine Or.inl ⟨by rfl, ?_⟩; intro w hSw; (try dsimp only at hSw); (try simp only [List.getElem_toArray, List.getElem_cons_zero, List.getElem_cons_succ]); go_simp; done) | (refine Or.inl ⟨by rfl, ?_⟩; intro w hSw; (try dsimp only at hSw); (try simp only [List.getElem_toArray, List.getElem_cons_zero, List.getElem_cons_succ]); go_simp; with_reducible rfl)
          try simp only [Act.put, List.setIfInBounds_toArray, List.set_cons_zero, List.set_cons_succ, List.getElem_toArray, List.getElem_cons_zero, List.getElem_cons_succ]
          refine E_take (i := 7) (oi := _) (v := ?_) rfl (by kernel_rfl) (fun _ _ _ h => h) ?_ (by assumption) ?_
          rotate_left 1
          · first | (refine Or.inl ⟨by rfl, ?_⟩; intro w hSw; (try dsimp only at hSw); (try simp only [List.getElem_toArray, List.getElem_cons_zero, List.getElem_cons_succ]); go_simp; done) | (refine Or.inl ⟨by rfl, ?_⟩; intro w hSw; (try dsimp only at hSw); (try simp only [List.getElem_toArray, List.getElem_cons_zero, List.getElem_cons_succ]); go_simp; with_reducible rfl)
          try simp only [Act.put, List.setIfInBounds_toArray, List.set_cons_zero, List.set_cons_succ, List.getElem_toArray, List.getElem_cons_zero, List.getElem_cons_succ]
          refine E_take (i := 8) (oi := _) (v := ?_) rfl (by kernel_rfl) (fun _ _ _ h => h) ?_ (by assumption) ?_
          rotate_left 1
          · first | (refine Or.inl ⟨by rfl, ?_⟩; intro w hSw; (try dsimp only at hSw); (try simp only [List.getElem_toArray, List.getElem_cons_zero, List.getElem_cons_succ]); go_simp; done) | (refine Or.inl ⟨by rfl, ?_⟩; intro w hSw; (try dsimp only at hSw); (try simp only [List.getElem_toArray, List.getElem_cons_zero, List.getElem_cons_succ]); go_simp; with_reducible rfl)
          try simp only [Act.put, List.setIfInBounds_toArray, List.set_cons_zero, List.set_cons_succ, List.getElem_toArray, List.getElem_cons_zero, List.getElem_cons_succ]
          refine E_take (i := 9) (oi := _) (v := ?_) rfl (by kernel_rfl) (fun _ _ _ h => h) ?_ (by assumption) ?_
          rotate_left 1
          · first | (refine Or.inl ⟨by rfl, ?_⟩; intro w hSw; (try dsimp only at hSw); (try simp only [List.getElem_toArray, List.getElem_cons_zero, List.getElem_cons_succ]); go_simp; done) | (refine Or.inl ⟨by rfl, ?_⟩; intro w hSw; (try dsimp only at hSw); (try simp only [List.getElem_toArray, List.getElem_cons_zero, List.getElem_cons_succ]); go_simp; with_reducible rfl)
          try simp only [Act.put, List.setIfInBounds_toArray, List.set_cons_zero, List.set_cons_succ, List.getElem_toArray, List.getElem_cons_zero, List.getElem_cons_succ]
          refine E_take (i := 10) (oi := _) (v := ?_) rfl (by kernel_rfl) (fun _ _ _ h => h) ?_ (by assumption) ?_
          rotate_left 1
          · first | (refine Or.inl ⟨by rfl, ?_⟩; intro w hSw; (try dsimp only at hSw); (try simp only [List.getElem_toArray, List.getElem_cons_zero, List.getElem_cons_succ]); go_simp; done) | (refine Or.inl ⟨by rfl, ?_⟩; intro w hSw; (try dsimp only at hSw); (try simp only [List.getElem_toArray, List.getElem_cons_zero, List.getElem_cons_succ]); go_simp; with_reducible rfl)
          try simp only [Act.put, List.setIfInBounds_toArray, List.set_cons_zero, List.set_cons_succ, List.getElem_toArray, List.getElem_cons_zero, List.getElem_cons_succ]
          refine E_take (i := 11) (oi := _) (v := ?_) rfl (by kernel_rfl) (fun _ _ _ h => h) ?_ (by assumption) ?_
          rotate_left 1
          · first | (refine Or.inl ⟨by rfl, ?_⟩; intro w hSw; (try dsimp only at hSw); (try simp only [List.getElem_toArray, List.getElem_cons_zero, List.getElem_cons_succ]); go_simp; done) | (refine Or.inl ⟨by rfl, ?_⟩; intro w hSw; (try dsimp only at hSw); (try simp only [List.getElem_toArray, List.getElem_cons_zero, List.getElem_cons_succ]); go_simp; with_reducible rfl)
          try simp only [Act.put, List.setIfInBounds_toArray, List.set_cons_zero, List.set_cons_succ, List.getElem_toArray, List.getElem_cons_zero, List.getElem_cons_succ]
          refine E_take (i := 12) (oi := _) (v := ?_) rfl (by kernel_rfl) (fun _ _ _ h => h) ?_ (by assumption) ?_
          rotate_left 1
          · first | (refine Or.inl ⟨by rfl, ?_⟩; intro w hSw; (try dsimp only at hSw); (try simp only [List.getElem_toArray, List.getElem_cons_zero, List.getElem_cons_succ]); go_simp; done) | (refine Or.inl ⟨by rfl, ?_⟩; intro w hSw; (try dsimp only at hSw); (try simp only [List.getElem_toArray, List.getElem_cons_zero, List.getElem_cons_succ]); go_simp; with_reducible rfl)
          try simp only [Act.put, List.setIfInBounds_toArray, List.set_cons_zero, List.set_cons_succ, List.getElem_toArray, List.getElem_cons_zero, List.getElem_cons_succ]
          refine E_take (i := 13) (oi := _) (v := ?_) rfl (by kernel_rfl) (fun _ _ _ h => h) ?_ (by assumption) ?_
          rotate_left 1
          · first | (refine Or.inl ⟨by rfl, ?_⟩; intro w hSw; (try dsimp only at hSw); (try simp only [List.getElem_toArray, List.getElem_cons_zero, List.getElem_cons_succ]); go_simp; done) | (refine Or.inl ⟨by rfl, ?_⟩; intro w hSw; (try dsimp only at hSw); (try simp only [List.getElem_toArray, List.getElem_cons_zero, List.getElem_cons_succ]); go_simp; with_reducible rfl)
          try simp only [Act.put, List.setIfInBounds_toArray, List.set_cons_zero, List.set_cons_succ, List.getElem_toArray, List.getElem_cons_zero, List.getElem_cons_succ]
          have g6 : w7.cell? ⟨rb, 6, none⟩ = some (.slice ca7 (c.length + 1) cc7) := KEEP8.out _ (Below.refl _ _)
          have f6 : w7.frozen? ⟨rb, 6, none⟩ = false := (blk HS7.out.row).2.1 6
          refine E_last (o := _) (by kernel_rfl) rfl (by kernel_rfl) (fun K hK => ?_)
          try simp only [List.getElem_toArray, List.getElem_cons_zero, List.getElem_cons_succ]
          go_simp
          refine hK.out _ _ ?_
          clear hK K
          go_wp2
          go_ret2
          have hpf := HPF.out
          have HSTF := (HST5.out.trans HST7.out).trans ((Step.of_below (Below.refl w7.heap.size w7).drew).trans POP.out.2)
          rcases HFIN.out with ⟨q, hq, hz⟩ | ⟨v, hv, hz⟩
          · injection hz with hr hs
            subst hr hs hq
            obtain ⟨_, hcode, hq0⟩ := hpf
            exact ⟨code7, ov7, vv7, _, X7, ⟨⟨_, _, rfl⟩, hcode, hq0⟩, POP.out.1, HSTF⟩
          · injection hz with hr hs
            subst hr hs hv
            obtain ⟨he, hcode⟩ := hpf
            injection he with he
            injection he with _ he
            subst he
            exact ⟨code7, ov7, vv7, _, X7, ⟨rfl, hcode⟩, POP.out.1, HSTF⟩
      · have HR := Lib.hid (HC.out.2.2.2.2.2.2 h0 h1 h7)
        have hacc : acc.length = 2 := by
          have h2 := HC.out.1
          have h3 := HAR.out
          obtain ⟨tk, tn, tm⟩ := t
          rw [arZ_op _ _ _ HTB.out h0 h1 h7] at h3
          omega
        obtain ⟨x, y, rfl⟩ : ∃ x y, acc = [x, y] := by
          match acc, hacc with
          | [x, y], _ => exact ⟨x, y, rfl⟩
        obtain ⟨ga, rfl, hga, ca0⟩ := readI_of HOR.out 0 (by simp)
        obtain ⟨ga', hga', _, ca1⟩ := readI_of HOR.out 1 (by simp)
        injection hga' with hga'
        injection hga' with hga'
        subst hga'
        have x0 : wr.cell? ⟨ga, 0, none⟩ = some (.int .i64 x) := ca0
        have x1 : wr.cell? ⟨ga, 1, none⟩ = some (.int .i64 y) := ca1
        have b0 : (t.kind == 0) = false := by simpa using h0
        have b1 : (t.kind == 1) = false := by simpa using h1
        have b7 : (t.kind == 7) = false := by simpa using h7
        have HAP := Lib.hid (fun W => s_apply t.kind x y W)
        have HRX := Lib.hid (show (r, s') = (RunRes.val (appZ t.kind x y) j, st) from HR.out)
        obtain ⟨tk, htk⟩ : ∃ tk, t.kind = tk := ⟨_, rfl⟩
        rw [htk] at d0 b0 b1 b7 HAP HRX
        clear h0 h1 h7 d1 d2 ca0 ca1 hacc htk HR HC hm4
        go_wp2_with fail
        go_region_held3 (fun w' => w'.cell? ⟨w.heap.size, 0, none⟩ = some (.int .i64 tk) ∧ w'.cell? ⟨ga, 0, none⟩ = some (.int .i64 x) ∧ w'.cell? ⟨ga, 1, none⟩ = some (.int .i64 y)) (first | exact ⟨d0, x0, x1⟩) (first
          | (go_at_call 100; ((with_reducible refine (HAP.out _).mono ?_); rintro e w' ⟨rfl, rfl⟩)))
        go_wp2
        go_ret2
        have h := HRX.out
        injection h with hr hs
        subst hr hs
        exact ⟨0, ov', vv', cv', X', ⟨rfl, rfl⟩, HSR.out.below (Below.refl wr.heap.size wr).drew, HST.out.on (Below.refl wr.heap.size wr).drew⟩
end Go.Proofs.YtcnnfhcpkbjolaaDoor
