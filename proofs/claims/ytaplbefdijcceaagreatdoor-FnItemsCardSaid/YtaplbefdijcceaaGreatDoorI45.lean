/- The lines of a function in place of its call: the new body's compiling, seen from the old body. -/
import Derived.Test.YtaplbefdijcceaaGreatDoorI44
import Derived.Test.YtaplbefdijcceaaGreatDoorI24
import Derived.Test.YtaplbefdijcceaaGreatDoorI23
namespace Go.Proofs.YtaplbefdijcceaaGreatDoor
open Go.RowKit Go.Lib Go.Maps
def RpD (B cb : Nat) (K : KcE) (R : CiS) (iv : Value) (sc : ScL) (b : BdW) (jv : Value) (k D2 : Nat) (w : World) (e : Ending) (w' : World) : Prop :=
 e = .returned (.tuple #[]) ∧ ∃ dd iv' X', Hid (CiAt jT Tryz.prog B cb w' K { R with depth := dd } iv' X' sc b jv k) ∧ Hid (Step cb (ME iv b.bb) (ME iv' b.bb) w w') ∧ Hid (w'.heap[D2]? = some (.deferred (some [])))
theorem repl_lines {B cb n D2 nM : Nat} {K : KcE} {wb w W : World} {scs rest : List ScL} {sc : ScL} {k g : Nat} {t R t4 : CiS} {iv iv5 jv v9 : Value} {X X5 : List ItW} {b : BdW} {bb2 mb2 fb2 : Nat} {D : DataW Unit} {L : List ByteArray}
  (hB : IBodyOk B cb K wb n) (hBw : wb.heap.size ≤ B) (h60 : K.E.p.length ≤ 60) (hv : ∀ x ∈ K.E.p, lineB x = true) (h : ReplTo K.E n scs sc k g t R) (ht4 : enterJ K.E sc (newSc K.E sc g k) k t = t4) (hrp : replJ K.E scs t.items.length g = true) (hb : BodyOk K w sc rest scs b) (hg : g ∈ funs K.E.p)
  (hd : 0 ≤ t4.depth) (hd2 : t4.depth ≤ 2000000 + 100 * ((newSc K.E sc g k :: scs).length : Int)) (hzl : R.items.length ≤ 1000000) (hu : t4.used ≤ 1000) (hj : t4.jumps = t.jumps) (hf : t4.firsts = t.firsts)
  (hci : CiAt jT Tryz.prog B cb w K t iv X sc b jv k) (hW : Below wb.heap.size wb w) (hC : CiAt jT Tryz.prog B cb W K t4 iv5 X5 sc b jv k) (hS : Step cb (ME iv b.bb) (ME iv5 b.bb) w W)
  (hrow : W.heap[bb2]? = some (.cells (nrow cb (some b.bb) g v9 mb2 (freeN K.E sc + L.length) 0 false fb2 (.slice none 0 0)) 141 (0, 0))) (hL : (newSc K.E sc g k).locs = L)
  (hM : W.ownsMap (H := Unit) Tryz.prog 9 (plainElem Tryz.prog 3) mb2 nM D) (hnM : nM ≤ 1048576) (hGv : Given (.map []) D L (freeN K.E sc)) (hF : W.ownsMap (H := Unit) Tryz.prog 3 (plainElem Tryz.prog 3) fb2 0 (.map [])) (h9 : W.ownsRow B 3 1 v9 (sc.chain.length + 1) (intV (natI (sc.chain ++ [k]))))
  (n1 : w.heap.size ≤ bb2) (n2 : w.heap.size ≤ mb2) (n3 : w.heap.size ≤ fb2) (n4 : mb2 ≠ fb2) (hD : W.heap[D2]? = some (.deferred (some []))) :
  Calls Tryz.prog 148 #[.pointer (some ⟨bb2, 0, none⟩)] W (RpD B cb K R iv sc b jv k D2 w) := by
 obtain ⟨z, hz, hR⟩ := h
 rw [ht4] at hz hR
 subst hR
 have hcw := hci.cc.lt
 have hbw := hci.bd.blt
 have hbW : BodyOk K W sc rest scs b := hb.stepE hci hS
 have hso := hb.so.new (k := k) (s := ⟨t.items, 0, false, 0, []⟩) hrp hg
 rw [hb.cur] at hso
 have hsf := ScF.new (k := k) h60 hv hb.sf hrp
 rw [hb.cur] at hsf
 obtain ⟨b2, hb2⟩ : ∃ x : BdW, (⟨bb2, some b.bb, v9, mb2, fb2⟩ : BdW) = x := ⟨_, rfl⟩
 have e1 : b2.bb = bb2 := by rw [← hb2]
 have e2 : b2.ab = some b.bb := by rw [← hb2]
 have e3 : b2.chv = v9 := by rw [← hb2]
 have e4 : b2.mb = mb2 := by rw [← hb2]
 have e5 : b2.fb = fb2 := by rw [← hb2]
 have hbo : BodyOk K W (newSc K.E sc g k) scs (newSc K.E sc g k :: scs) b2 := by
  refine ⟨rfl, hso, hsf, ?_, fun a ha => ?_, by rw [e2]; rfl⟩
  ·rw [e2, hb.eq]
   exact ⟨brow cb K.E sc b jv k t4.pend, b.ab, hC.bd.row, rfl, rfl, hbW.lt, hbW.ab⟩
  ·rw [e2] at ha
   injection ha with ha
   rw [e1, ← ha]
   omega
 have hci2 : CiAt jT Tryz.prog B cb W K { t4 with jumps := [], firsts := [], pend := false } iv5 X5 (newSc K.E sc g k) b2 (.slice none 0 0) 0 := by
  refine ⟨⟨hC.cc.row, hC.cc.its, hC.cc.items, hC.cc.chn, hC.cc.lo⟩, ⟨?_, ?_, ⟨nM, D, ?_, new_slots (D0 := .map []) rfl ?_, hnM⟩, ⟨.map [], ?_, fun q _ hq => by simp at hq⟩, ⟨by simp [juV], .inl ⟨rfl, rfl⟩⟩, hC.cc.lo, by rw [e1]; omega, by rw [e4]; omega, by rw [e5]; omega, by rw [e4, e5]; exact n4⟩⟩
  ·rw [e1, nrow_is, e2, e3, e4, e5, (newSc_free K.E sc g k).2, (newSc_free K.E sc g k).1, hL]
   exact hrow
  ·rw [e3]
   have hl : (newSc K.E sc g k).chain.length = sc.chain.length + 1 := by show (sc.chain ++ [k]).length = _; simp
   rw [hl]
   exact h9
  ·rw [e4]; exact hM
  ·rw [hL]; exact hGv
  ·rw [e5]; exact hF
 have hCL := hB (newSc K.E sc g k :: scs) (newSc K.E sc g k) scs { t4 with jumps := [], firsts := [], pend := false } z W iv5 X5 b2 (.slice none 0 0) 0 hz hbo rfl rfl hd hd2 hzl hu hci2 (hW.trans ((hci.baseE hS).mono hBw))
 rw [e1] at hCL
 refine hCL.mono ?_
 rintro e w' ⟨rfl, iv', jv', X', ln, HC', HS'⟩
 have hws := hS.size
 have key : ∀ q, q < w.heap.size → q ≠ cb → iv5.ownBlock ≠ some q → w'.heap[q]? = W.heap[q]? := fun q hq hc hi => HS'.out.block q (by omega) hc (fun v hv e => by
  unfold ML at hv
  simp only [List.mem_cons, List.not_mem_nil, or_false] at hv
  rcases hv with rfl | rfl | rfl | rfl
  ·exact hi e
  ·have e' : b2.bb = q := Option.some.inj e
   omega
  ·cases e
  ·have e' : b2.fb = q := Option.some.inj e
   omega)
 have sp := hC.sep jT_ok
 refine ⟨rfl, z.2.depth, iv', X', hid ⟨⟨HC'.out.cc.row, HC'.out.cc.its, HC'.out.cc.items, HC'.out.cc.chn, HC'.out.cc.lo⟩, ?_⟩, hid ⟨HS'.out.os.trans hS.os, HS'.out.tape.trans hS.tape, HS'.out.output.trans hS.output, Nat.le_trans hS.size HS'.out.size, fun q hq hc hm => ?_, fun v hv q hq => ?_⟩, hid ?_⟩
 ·have hbd := hC.bd.keep (key b.bb hci.bd.blt sp.bc sp.ib) (key b.mb hci.bd.mlt sp.mc sp.im) (key b.fb hci.bd.flt sp.fc sp.fi) (fun q hq => key q (hci.bd.ch.lt q hq).2 (fun e => sp.hc (by rw [hq, e])) (fun e => sp.ih q e hq)) (fun q hq => key q (hci.bd.jr.lt q hq).2 (fun e => sp.jc (by rw [hq, e])) (fun e => sp.ij q e hq))
  rw [hj, hf] at hbd
  exact hbd
 ·refine (key q hq hc (fun e => ?_)).trans (hS.block q hq hc hm)
  rcases hS.rows iv5 (by unfold ME; exact List.mem_cons_self ..) q e with ⟨u, hu', e'⟩ | e'
  ·exact hm u hu' e'
  ·omega
 ·unfold ME at hv
  simp only [List.mem_cons, List.not_mem_nil, or_false] at hv
  rcases hv with rfl | rfl
  ·rcases HS'.out.rows v (by unfold ML; exact List.mem_cons_self ..) q hq with ⟨u, hu', e'⟩ | e'
   ·unfold ML at hu'
    simp only [List.mem_cons, List.not_mem_nil, or_false] at hu'
    rcases hu' with rfl | rfl | rfl | rfl
    ·exact hS.rows u (by unfold ME; exact List.mem_cons_self ..) q e'
    ·have e'' : b2.bb = q := Option.some.inj e'
     exact .inr (by omega)
    ·cases e'
    ·have e'' : b2.fb = q := Option.some.inj e'
     exact .inr (by omega)
   ·exact .inr (by omega)
  ·exact .inl ⟨psV b.bb, mem_ME, hq⟩
 ·refine (HS'.out.block D2 (Array.getElem?_eq_some_iff.1 hD).1 (fun e => ?_) (fun v hv e => ?_)).trans hD
  ·subst e
   rw [hC.cc.row] at hD
   cases hD
  ·unfold ML at hv
   simp only [List.mem_cons, List.not_mem_nil, or_false] at hv
   rcases hv with rfl | rfl | rfl | rfl
   ·rcases hC.cc.its.2 with ⟨rfl, _⟩ | ⟨g1, c1, r1, rfl, _, hh, _⟩
    ·cases e
    ·obtain rfl : g1 = D2 := Option.some.inj e
     rw [hh] at hD
     cases hD
   ·have e' : b2.bb = D2 := Option.some.inj e
    rw [← e', e1, hrow] at hD
    cases hD
   ·cases e
   ·have e' : b2.fb = D2 := Option.some.inj e
    obtain ⟨es, clock, hm1, _⟩ := hF
    rw [← e', e5, hm1] at hD
    cases hD
end Go.Proofs.YtaplbefdijcceaaGreatDoor
