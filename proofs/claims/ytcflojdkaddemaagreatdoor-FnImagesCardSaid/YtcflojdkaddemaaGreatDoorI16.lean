/- Parts of the proof. -/
import Derived.Test.YtcflojdkaddemaaGreatDoorI15
import Derived.Handy
namespace Go.Proofs.YtcflojdkaddemaaGreatDoor
open Go.RowKit Go.Lib Go.Maps
def LineTo (E:CmpE) (n:Nat) (scs:List ScL) (sc:ScL) (k:Nat) (t R:CiS):Prop :=
 if lkZ E.p (k:Int)=4 then R=jumpJ E t 10 (nxZ E.p k).toNat k sc.chain
 else if lkZ E.p (k:Int)=7 then
  if (k:Int)=beZ E.p (sc.f:Int) then R=if sc.outer=true then leaveJ E (numJ E t 0 k sc.chain) sc k else numJ E t 0 k sc.chain
  else if lkZ E.p (endOpen E.p k:Int)=5 then R=jumpJ E t 10 (endOpen E.p k) k sc.chain
  else R=t
 else ∃ y,cmiF E n (.expr scs k 0) { t with pend:=true }=some y ∧
  if lkZ E.p (k:Int)=1 then R=storeJ E y.2 sc (varIx sc.locs (nameAt E.p k)) k sc.chain
  else if lkZ E.p (k:Int)=2 then R=emitJ E y.2 17 0 k sc.chain
  else if lkZ E.p (k:Int)=6 then R=leaveJ E y.2 sc k
  else R=jumpJ E y.2 11 (nxZ E.p k).toNat k sc.chain
structure LineAt (B cb:Nat) (K:KcE) (wb:World) (scs:List ScL) (sc:ScL) (rest:List ScL) (k:Nat) (t R:CiS) (w:World) (iv:Value) (X:List ItW) (b:BdW) (jv:Value) (line:Nat):Prop where
 body:BodyOk K w sc rest scs b
 fk:sc.f<k
 ke:(k:Int)≤beZ K.E.p (sc.f:Int)
 d0:0≤t.depth
 d1:t.depth≤2000000+100*(scs.length:Int)
 rl:R.items.length≤1000000
 us:t.used≤1000
 jl:t.jumps.length≤t.items.length
 at':CiAt jT Tryz.prog B cb w K t iv X sc b jv line
 wb':Below wb.heap.size wb w
def ILineOk (B cb:Nat) (K:KcE) (wb:World) (n:Nat):Prop :=
 ∀ (scs:List ScL) (sc:ScL) (rest:List ScL) (k:Nat) (t R:CiS) (w:World) (iv:Value) (X:List ItW) (b:BdW) (jv:Value) (line:Nat),
  LineTo K.E n scs sc k t R→LineAt B cb K wb scs sc rest k t R w iv X b jv line →
  Calls Tryz.prog 214 #[.pointer (some ⟨b.bb,0,none⟩),.int .i64 (k:Int)] w (LnR B cb K R iv jv sc b k w)
section
variable {K:KcE} {pa:Option Addr} {pc:Nat} {PX:List LnL} {fa:Option Addr} {fc:Nat} {wb:World} {k:Nat}
theorem PgI.line (hP:PgI K pa pc PX fa fc wb) (hk:k<K.E.p.length):∃ h:k<PX.length,∃ xe xc,PX[k].ve=.slice xe (exprAt K.E.p k).length xc∧ReadT wb xe (exprAt K.E.p k)∧PX[k].kind=lkZ K.E.p (k:Int)∧PX[k].name=nameAt K.E.p k:=by
 have hpr:=hP.prog;have hkx:k<PX.length:=by rw [← hpr,plL_length] at hk;exact hk
 obtain ⟨g,_,hg,_,hm⟩:=hP.read k hkx;obtain ⟨xa,xb,xc,xd,_,ee,_,ht,_,_⟩:=inMem_shape hm;have hpx:K.E.p[k]=PX[k].p:=by
  have:=pl_at PX k hkx (by rw [hpr];exact hk)
  rw [← this];simp only [hpr]
 have hex:exprAt K.E.p k=PX[k].expr:=by rw [exprAt_get _ _ hk,hpx];rfl
 refine ⟨hkx,xb,xd,by rw [hex];exact ee,by rw [hex];exact ht,?_,?_⟩
 ·rw [lkZ_at _ _ hk,hpx];rfl
 ·unfold nameAt
  rw [List.getElem?_eq_getElem hk,hpx];rfl
theorem PgI.stmt (hP:PgI K pa pc PX fa fc wb) (hk:k<K.E.p.length) (hkd:1≤lkZ K.E.p (k:Int)∧lkZ K.E.p (k:Int)≤7) (h7:lkZ K.E.p (k:Int)=7→endOpen K.E.p k<k):∃ xe xc,ReadT wb xe (exprAt K.E.p k)∧∀ W,Below wb.heap.size wb W →
  Calls Tryz.prog 221 #[.slice pa PX.length pc,.int .i64 (k:Int)] W fun e w'=>e=.returned (stmtV (lkZ K.E.p (k:Int)) (.slice xe (exprAt K.E.p k).length xc) (nameAt K.E.p k) (stmtTo K.E.p k) (lkZ K.E.p (endOpen K.E.p k:Int)))∧Below W.heap.size W w':=by
 obtain ⟨hkx,xe,xc,e1,e2,e3,e4⟩:=hP.line hk;refine ⟨xe,xc,e2,fun W hW=>?_⟩;have h:=i_stmt pa pc PX k W (by have:=hP.len;omega) hkx (hP.read.below hW) (by rw [e3];exact hkd) (fun h4=>by
  rw [e3,lkZ_at _ _ hk] at h4;obtain ⟨a1,a2,_⟩:=else_jump hP.ok hk h4;rw [hP.prog];exact ⟨a1,a2⟩) (fun h=>by rw [hP.prog];exact h7 (by rw [← e3];exact h))
 rw [hP.prog,e1,e3,e4] at h;exact h
theorem PgI.expr (hP:PgI K pa pc PX fa fc wb) (hk:k<K.E.p.length) (hkd:exprK (lkZ K.E.p (k:Int))=true):exprB (exprAt K.E.p k)=true∧0<(exprAt K.E.p k).length∧(exprAt K.E.p k).length≤20∧NamesI (exprAt K.E.p k)∧∃ q,scanN ((exprAt K.E.p k).drop 0) 1=some q:=by
 have hlb:=hP.ok.1.2 _ (List.getElem_mem hk);have hex:exprB K.E.p[k].expr=true:=by
  have:=((lineB_iff _).1 hlb).2.2.2
  rw [← lkZ_at _ _ hk,hkd] at this;exact this
 rw [← exprAt_get _ _ hk] at hex;have hl:=expr_len _ hex;exact ⟨hex,hl.1,hl.2,fun j hj=>by have:=tok_name _ (expr_toks _ hex _ (List.getElem_mem hj));unfold maxLen;omega,_,by rw [List.drop_zero];exact expr_scan _ hex⟩
end
theorem stmt_ask (kd:Int) (ve:Value) (nm:ByteArray) (tt kb:Int) (h:kd=3∨kd=5):stmtV kd ve nm tt kb=.iface 255 (.agg #[ve,.int .i64 tt]):=by
 unfold stmtV;rw [if_neg (by omega),if_neg (by omega),if_neg (by omega),if_pos h]
theorem to_ask {p:List PLine} (ho:OkI p) {f k:Nat} (hfk:f<k) (hlt:(k:Int)<beZ p (f:Int)) (h0:0≤beZ p (f:Int)) (hl:k<p.length) (h:lkZ p (k:Int)=3∨lkZ p (k:Int)=5):stmtTo p k=((nxZ p k).toNat:Int):=by
 have hb:=(ask_end h0 hfk hlt hl (by rw [← lkZ_at p k hl];exact h)).1;have e:stmtTo p k=nxZ p k:=by
  unfold stmtTo nextZ nxZ;rw [if_neg (by omega)]
  rcases h with h|h <;> simp [h]
 have e0:0≤nxZ p k:=by
  unfold nxZ
  rcases h with h|h
  ·rw [if_pos h];split <;> omega
  ·rw [if_neg (by omega),if_pos h];omega
 omega
theorem to_else {p:List PLine} (ho:OkI p) {k:Nat} (hl:k<p.length) (h4:lkZ p (k:Int)=4):stmtTo p k=((nxZ p k).toNat:Int):=by
 obtain ⟨_,_,h3⟩:=else_jump ho hl (by rw [← lkZ_at p k hl];exact h4);have e:stmtTo p k=nxZ p k:=by
  unfold stmtTo nextZ nxZ;rw [if_neg (by omega),if_neg (by omega),if_neg (by omega),if_pos h4,if_neg (by omega),if_neg (by omega)]
 have e0:0≤nxZ p k:=by
  unfold nxZ;rw [if_neg (by omega),if_neg (by omega)];omega
 omega
theorem calls_of {P:Program} {f:Nat} {x y:Array Value} {w:World} {Q:Ending→World→Prop} (h:y=x) (hc:Calls P f x w Q):Calls P f y w Q:=h▸hc
theorem i_visited (xe:Option Addr) (m xc:Nat) (w:World):Calls Tryz.prog 251 #[.agg #[.slice xe m xc]] w fun e w'=>e=.returned (.slice xe m xc)∧Below w.heap.size w w':=by
 go_enter Tryz.func251,Tryz.ntmps251
 go_wp2_with fail;go_ret;exact ⟨rfl,(Below.refl _ _).alloc (Nat.le_refl _) _⟩
theorem i_unvisited (w:World):Calls Tryz.prog 252 #[.agg #[]] w fun e w'=>e=.returned (.slice none 0 0)∧Below w.heap.size w w':=by
 go_enter Tryz.func252,Tryz.ntmps252
 go_wp2_with fail;go_ret;exact ⟨rfl,(Below.refl _ _).alloc (Nat.le_refl _) _⟩
set_option maxRecDepth 100000 in
set_option maxHeartbeats 4000000 in
theorem i_line2 (B cb:Nat) (K:KcE) (pa:Option Addr) (pc:Nat) (PX:List LnL) (fa:Option Addr) (fc:Nat) (wb:World) (hP:PgI K pa pc PX fa fc wb) (hBw:wb.heap.size≤B) (n:Nat) (hE:∀ m,m≤n→IExprOk B cb K wb m)
  (scs:List ScL) (sc:ScL) (rest:List ScL) (k:Nat) (t R:CiS) (w:World) (iv:Value) (X:List ItW) (b:BdW) (jv:Value) (line:Nat)
  (hq:lkZ K.E.p (k:Int)=2) (h:LineTo K.E n scs sc k t R) (L:LineAt B cb K wb scs sc rest k t R w iv X b jv line) :
  Calls Tryz.prog 214 #[.pointer (some ⟨b.bb,0,none⟩),.int .i64 (k:Int)] w (LnR B cb K R iv jv sc b k w):=by
 have h60:K.E.p.length≤60:=hP.ok.1.1;have hlb:=hP.ok.1.2;have hinl:=hP.inl;have hsl:scs.length≤4:=by have:=L.body.sf.2.1;omega
 have hcl:sc.chain.length≤4:=by have:=L.body.chn;omega
 have hfun:sc.f ∈ funs K.E.p:=by have:=L.body.so.f;rw [L.body.cur] at this;exact this
 obtain ⟨hfl,hf0,hfe,hel,hloc⟩:=fun_parts hP.ok hfun;have hfk:=L.fk;have hke:=L.ke;have hkl:k<K.E.p.length:=by omega
 have h0b:0≤beZ K.E.p (sc.f:Int):=by omega
 have hlt:(k:Int)<beZ K.E.p (sc.f:Int):=by
  rcases Int.lt_or_le (k:Int) (beZ K.E.p (sc.f:Int)) with h'|h'
  ·exact h'
  ·have:=beZ_7 K.E.p (sc.f:Int) h0b
   rw [show beZ K.E.p (sc.f:Int)=(k:Int) from by omega] at this;omega
 obtain ⟨hex,hl0,hl20,hnm,hscan⟩:=hP.expr hkl (by rw [hq];rfl);unfold LineTo at h;rw [if_neg (by omega),if_neg (by omega)] at h;obtain ⟨y,hy,hR⟩:=h;have hR:R=emitJ K.E y.2 17 0 k sc.chain:=by rw [if_neg (by omega),if_pos hq] at hR;exact hR
 have hky:Kn K.E scs k:=fun u hu=>by
  rw [L.body.cur,show sc.locs=locZ K.E.p (sc.f:Int) from by have:=L.body.so.lo;rw [L.body.cur] at this;exact this];rw [exprAt_get _ _ hkl] at hu;exact line_in hP.ok hfun hfk hlt hkl u hu
 obtain ⟨y1,y2,y3,y4,y5⟩:=((cmi_bound (E:=K.E) h60 hlb) n).1 _ _ _ _ _ L.body.sf hy;have y1:t.items.length≤y.2.items.length:=y1;have y2:y.2.used≤max t.used (64*(K.E.inl+1)):=y2;have y3:y.2.depth=t.depth+1:=y3;have y4:y.2.jumps=t.jumps:=y4;have hyl:y.2.items.length≤1000000:=by
  have:=L.rl
  rw [hR] at this;have h2:y.2.items.length≤(emitJ K.E y.2 17 0 k sc.chain).items.length:=by rw [emitJ_len];omega
  omega
 have hsm:Sm8 y.2:=⟨by have:=L.d0;omega,by have:=L.d1;omega,by omega⟩;obtain ⟨xe,xc,hxe,HST⟩:=hP.stmt hkl (by omega) (by omega);have HST:Hid (∀ W,Below wb.heap.size wb W→Calls Tryz.prog 221 #[.slice pa PX.length pc,.int .i64 (k:Int)] W fun e w'=>e=.returned (.iface 252 (.agg #[.slice xe (exprAt K.E.p k).length xc]))∧Below W.heap.size W w'):=hid (fun W hb=>by
  have h:=HST W hb;rw [hq,show stmtV 2 (.slice xe (exprAt K.E.p k).length xc) (nameAt K.E.p k) (stmtTo K.E.p k) (lkZ K.E.p (endOpen K.E.p k:Int))=.iface 252 (.agg #[.slice xe (exprAt K.E.p k).length xc]) from rfl] at h;exact h)
 have HCI:=hid L.at';have HBO:=hid L.body;have HW:=hid L.wb';have HP:=hid hP;have q0:=L.at'.cells.1;have q6:w.cell? ⟨b.bb,6,none⟩=some (.int .i64 (line:Int)):=(blk L.at'.bd.row).1 6 _ rfl;have g6:w.frozen? ⟨b.bb,6,none⟩=false:=(blk L.at'.bd.row).2.1 6;have HC0:Hid (CiAt jT Tryz.prog B cb (w.setCell ⟨b.bb,6,none⟩ (.int .i64 (k:Int))) K t iv X sc b jv k):=hid (L.at'.cellB jT_ok 6 _ rfl rfl rfl rfl rfl rfl);have HS0:Hid (Step cb (ML iv jv b) (ML iv jv b) w (w.setCell ⟨b.bb,6,none⟩ (.int .i64 (k:Int)))):=hid (cellB_step w mem_ML 6 _);obtain ⟨w0,hw0⟩:∃ W,w.setCell ⟨b.bb,6,none⟩ (.int .i64 (k:Int))=W:=⟨_,rfl⟩;have HW0:=hid hw0;rw [hw0] at HC0 HS0;have HB0:Hid (Below wb.heap.size wb w0):=hid (L.wb'.trans ((L.at'.baseL HS0.out).mono hBw));have z0:=HC0.out.cells.1;have z1:w0.cell? ⟨cb,0,none⟩=some (.slice pa PX.length pc):=by rw [← hP.pv];exact (blk HC0.out.cc.row).1 0 _ rfl
 have hr1:w0.cell? ⟨b.bb,7,none⟩=some (.bool t.pend):=(blk HC0.out.bd.row).1 7 _ rfl;have hbd0:BodyOk K w0 sc rest scs b:=L.body.stepL L.at' HS0.out;have hed:((K.E.p.length:Int))≤60:=by omega
 have EX:Hid (∀ w1,Below w0.heap.size w0 w1→Calls Tryz.prog 222 #[.pointer (some ⟨b.bb,0,none⟩),.slice xe (exprAt K.E.p k).length xc,.int .i64 0] (w1.setCell ⟨b.bb,7,none⟩ (.bool true)) fun e w3=>e=.returned (.tuple #[])∧∃ iv3 X3,Hid (CiAt jT Tryz.prog B cb w3 K y.2 iv3 X3 sc b jv k)∧Hid (Step cb (ML iv jv b) (ML iv3 jv b) w w3)):=hid (fun w1 hb=>by
  have hC1:=HC0.out.below hb;have hC2:CiAt jT Tryz.prog B cb (w1.setCell ⟨b.bb,7,none⟩ (.bool true)) K { t with pend:=true } iv X sc b jv k:=hC1.cellB jT_ok 7 _ rfl rfl rfl rfl rfl rfl;have hS2:Step cb (ML iv jv b) (ML iv jv b) w (w1.setCell ⟨b.bb,7,none⟩ (.bool true)):=(HS0.out.trans (Step.of_below hb)).trans (cellB_step w1 mem_ML 7 _);have hW2:Below wb.heap.size wb (w1.setCell ⟨b.bb,7,none⟩ (.bool true)):=L.wb'.trans ((L.at'.baseL hS2).mono hBw);have h3:=hE n (Nat.le_refl _) scs sc rest k 0 { t with pend:=true } y _ iv X b jv xe xc hy (L.body.stepL L.at' hS2) hky hscan L.d0 (by have:=L.d1;show t.depth≤_;omega) hyl L.us hC2 hW2 hxe hl20 hnm;refine h3.mono ?_;rintro e w3 ⟨rfl,iv3,X3,hC3,hS3⟩;exact ⟨rfl,iv3,X3,hC3,hid (hS2.trans hS3.out.lines)⟩)
 have PB:Hid (∀ w1,Below w0.heap.size w0 w1→w1.cell? ⟨b.bb,7,none⟩=some (.bool t.pend)∧w1.frozen? ⟨b.bb,7,none⟩=false):=hid (fun w1 hb=>⟨(blk (HC0.out.below hb).bd.row).1 7 _ rfl,(blk (HC0.out.below hb).bd.row).2.1 7⟩);have OP:Hid (∀ W iv3 X3,CiAt jT Tryz.prog B cb W K y.2 iv3 X3 sc b jv k→Calls Tryz.prog 185 #[.pointer (some ⟨b.bb,0,none⟩),.int .i64 17,.int .i64 0] W (EmR B cb K R iv3 sc b jv k W)):=hid (fun W iv3 X3 hC=>by
  rw [hR];exact i_emit B cb K y.2 iv3 X3 sc b jv k 17 0 W hC (by omega) (by rw [hC.len];omega))
 have hln:(0:Int)<((exprAt K.E.p k).length:Int):=by omega
 obtain ⟨m,hm⟩:∃ m,(exprAt K.E.p k).length=m:=⟨_,rfl⟩;rw [hm] at HST EX hln;have TA0:∀ W,(Instr.typeAssert (.iface 252 (.agg #[.slice xe m xc])) 243 250 true).run Tryz.prog W=.ok (.tuple #[.agg #[.slice none 0 0,.string ⟨#[]⟩],.bool false]) W:=fun W=>by kernel_rfl
 have TA1:∀ W,(Instr.typeAssert (.iface 252 (.agg #[.slice xe m xc])) 243 252 true).run Tryz.prog W=.ok (.tuple #[.agg #[.slice xe m xc],.bool true]) W:=fun W=>by kernel_rfl
 clear hP h60 hlb hinl hsl hcl hfun hfl hf0 hfe hel hloc hfk hke hkl h0b hex hl0 hl20 hnm hscan hy hky y1 y2 y3 y4 y5 hyl hsm hxe hbd0 hed hR hlt HCI HBO HW HP hr1 hm L hE
 go_enter Tryz.func214,Tryz.ntmps214
 go_upto_region 1 with fail;go_wp2_with fail;refine (HST.out _ HB0.out).mono ?_;rintro e w1 ⟨rfl,b1⟩;have HB1:Hid (Below w0.heap.size w0 w1):=hid b1;clear b1 z0 z1;go_wp2_with fail;refine calls_of (by kernel_rfl) ((i_visited xe m xc w1).mono ?_);rintro e w2 ⟨rfl,b2⟩;have HB2:Hid (Below w0.heap.size w0 w2):=hid (HB1.out.trans (b2.mono HB1.out.size));obtain ⟨p7,g7⟩:=PB.out _ HB2.out;clear b2;go_wp2_with fail;refine (EX.out _ HB2.out).mono ?_;rintro e w3 ⟨rfl,iv3,X3,HC3,HS3⟩;have HAL:Hid (Below w3.heap.size w3 (w3.alloc (.cells #[.slice xe m xc] 252))):=hid ((Below.refl _ _).alloc (Nat.le_refl _) _);go_wp2_with (go_at_call 185;(with_reducible refine (OP.out _ _ _ (HC3.out.below HAL.out)).mono ?_);intro e w5 HJ;have HJ2:=hid HJ;clear HJ;obtain ⟨rfl,iv5,X5,HC5,HS5⟩:=HJ2.out)
 go_end0
 exact ⟨rfl,iv5,jv,X5,HC5,hid ((HS3.out.trans (Step.of_below HAL.out)).trans HS5.out.lines)⟩
set_option maxRecDepth 100000 in
set_option maxHeartbeats 4000000 in
theorem i_line6 (B cb:Nat) (K:KcE) (pa:Option Addr) (pc:Nat) (PX:List LnL) (fa:Option Addr) (fc:Nat) (wb:World) (hP:PgI K pa pc PX fa fc wb) (hBw:wb.heap.size≤B) (n:Nat) (hE:∀ m,m≤n→IExprOk B cb K wb m)
  (scs:List ScL) (sc:ScL) (rest:List ScL) (k:Nat) (t R:CiS) (w:World) (iv:Value) (X:List ItW) (b:BdW) (jv:Value) (line:Nat)
  (hq:lkZ K.E.p (k:Int)=6) (h:LineTo K.E n scs sc k t R) (L:LineAt B cb K wb scs sc rest k t R w iv X b jv line) :
  Calls Tryz.prog 214 #[.pointer (some ⟨b.bb,0,none⟩),.int .i64 (k:Int)] w (LnR B cb K R iv jv sc b k w):=by
 have h60:K.E.p.length≤60:=hP.ok.1.1;have hlb:=hP.ok.1.2;have hinl:=hP.inl;have hsl:scs.length≤4:=by have:=L.body.sf.2.1;omega
 have hcl:sc.chain.length≤4:=by have:=L.body.chn;omega
 have hfun:sc.f ∈ funs K.E.p:=by have:=L.body.so.f;rw [L.body.cur] at this;exact this
 obtain ⟨hfl,hf0,hfe,hel,hloc⟩:=fun_parts hP.ok hfun;have hfk:=L.fk;have hke:=L.ke;have hkl:k<K.E.p.length:=by omega
 have h0b:0≤beZ K.E.p (sc.f:Int):=by omega
 have hlt:(k:Int)<beZ K.E.p (sc.f:Int):=by
  rcases Int.lt_or_le (k:Int) (beZ K.E.p (sc.f:Int)) with h'|h'
  ·exact h'
  ·have:=beZ_7 K.E.p (sc.f:Int) h0b
   rw [show beZ K.E.p (sc.f:Int)=(k:Int) from by omega] at this;omega
 obtain ⟨hex,hl0,hl20,hnm,hscan⟩:=hP.expr hkl (by rw [hq];rfl);unfold LineTo at h;rw [if_neg (by omega),if_neg (by omega)] at h;obtain ⟨y,hy,hR⟩:=h;have hR:R=leaveJ K.E y.2 sc k:=by rw [if_neg (by omega),if_neg (by omega),if_pos hq] at hR;exact hR
 have hky:Kn K.E scs k:=fun u hu=>by
  rw [L.body.cur,show sc.locs=locZ K.E.p (sc.f:Int) from by have:=L.body.so.lo;rw [L.body.cur] at this;exact this];rw [exprAt_get _ _ hkl] at hu;exact line_in hP.ok hfun hfk hlt hkl u hu
 obtain ⟨y1,y2,y3,y4,y5⟩:=((cmi_bound (E:=K.E) h60 hlb) n).1 _ _ _ _ _ L.body.sf hy;have y1:t.items.length≤y.2.items.length:=y1;have y2:y.2.used≤max t.used (64*(K.E.inl+1)):=y2;have y3:y.2.depth=t.depth+1:=y3;have y4:y.2.jumps=t.jumps:=y4;have hyl:y.2.items.length≤1000000:=by
  have:=L.rl
  rw [hR] at this;have h2:y.2.items.length≤(leaveJ K.E y.2 sc k).items.length:=by unfold leaveJ jumpJ emitJ;split <;> (try split) <;> simp
  omega
 have hsm:Sm8 y.2:=⟨by have:=L.d0;omega,by have:=L.d1;omega,by omega⟩;obtain ⟨xe,xc,hxe,HST⟩:=hP.stmt hkl (by omega) (by omega);have HST:Hid (∀ W,Below wb.heap.size wb W→Calls Tryz.prog 221 #[.slice pa PX.length pc,.int .i64 (k:Int)] W fun e w'=>e=.returned (.iface 253 (.agg #[.slice xe (exprAt K.E.p k).length xc]))∧Below W.heap.size W w'):=hid (fun W hb=>by
  have h:=HST W hb;rw [hq,show stmtV 6 (.slice xe (exprAt K.E.p k).length xc) (nameAt K.E.p k) (stmtTo K.E.p k) (lkZ K.E.p (endOpen K.E.p k:Int))=.iface 253 (.agg #[.slice xe (exprAt K.E.p k).length xc]) from rfl] at h;exact h)
 have HCI:=hid L.at';have HBO:=hid L.body;have HW:=hid L.wb';have HP:=hid hP;have q0:=L.at'.cells.1;have q6:w.cell? ⟨b.bb,6,none⟩=some (.int .i64 (line:Int)):=(blk L.at'.bd.row).1 6 _ rfl;have g6:w.frozen? ⟨b.bb,6,none⟩=false:=(blk L.at'.bd.row).2.1 6;have HC0:Hid (CiAt jT Tryz.prog B cb (w.setCell ⟨b.bb,6,none⟩ (.int .i64 (k:Int))) K t iv X sc b jv k):=hid (L.at'.cellB jT_ok 6 _ rfl rfl rfl rfl rfl rfl);have HS0:Hid (Step cb (ML iv jv b) (ML iv jv b) w (w.setCell ⟨b.bb,6,none⟩ (.int .i64 (k:Int)))):=hid (cellB_step w mem_ML 6 _);obtain ⟨w0,hw0⟩:∃ W,w.setCell ⟨b.bb,6,none⟩ (.int .i64 (k:Int))=W:=⟨_,rfl⟩;have HW0:=hid hw0;rw [hw0] at HC0 HS0;have HB0:Hid (Below wb.heap.size wb w0):=hid (L.wb'.trans ((L.at'.baseL HS0.out).mono hBw));have z0:=HC0.out.cells.1;have z1:w0.cell? ⟨cb,0,none⟩=some (.slice pa PX.length pc):=by rw [← hP.pv];exact (blk HC0.out.cc.row).1 0 _ rfl
 have hr1:w0.cell? ⟨b.bb,7,none⟩=some (.bool t.pend):=(blk HC0.out.bd.row).1 7 _ rfl;have hbd0:BodyOk K w0 sc rest scs b:=L.body.stepL L.at' HS0.out;have hed:((K.E.p.length:Int))≤60:=by omega
 have EX:Hid (∀ w1,Below w0.heap.size w0 w1→Calls Tryz.prog 222 #[.pointer (some ⟨b.bb,0,none⟩),.slice xe (exprAt K.E.p k).length xc,.int .i64 0] (w1.setCell ⟨b.bb,7,none⟩ (.bool true)) fun e w3=>e=.returned (.tuple #[])∧∃ iv3 X3,Hid (CiAt jT Tryz.prog B cb w3 K y.2 iv3 X3 sc b jv k)∧Hid (Step cb (ML iv jv b) (ML iv3 jv b) w w3)):=hid (fun w1 hb=>by
  have hC1:=HC0.out.below hb;have hC2:CiAt jT Tryz.prog B cb (w1.setCell ⟨b.bb,7,none⟩ (.bool true)) K { t with pend:=true } iv X sc b jv k:=hC1.cellB jT_ok 7 _ rfl rfl rfl rfl rfl rfl;have hS2:Step cb (ML iv jv b) (ML iv jv b) w (w1.setCell ⟨b.bb,7,none⟩ (.bool true)):=(HS0.out.trans (Step.of_below hb)).trans (cellB_step w1 mem_ML 7 _);have hW2:Below wb.heap.size wb (w1.setCell ⟨b.bb,7,none⟩ (.bool true)):=L.wb'.trans ((L.at'.baseL hS2).mono hBw);have h3:=hE n (Nat.le_refl _) scs sc rest k 0 { t with pend:=true } y _ iv X b jv xe xc hy (L.body.stepL L.at' hS2) hky hscan L.d0 (by have:=L.d1;show t.depth≤_;omega) hyl L.us hC2 hW2 hxe hl20 hnm;refine h3.mono ?_;rintro e w3 ⟨rfl,iv3,X3,hC3,hS3⟩;exact ⟨rfl,iv3,X3,hC3,hid (hS2.trans hS3.out.lines)⟩)
 have PB:Hid (∀ w1,Below w0.heap.size w0 w1→w1.cell? ⟨b.bb,7,none⟩=some (.bool t.pend)∧w1.frozen? ⟨b.bb,7,none⟩=false):=hid (fun w1 hb=>⟨(blk (HC0.out.below hb).bd.row).1 7 _ rfl,(blk (HC0.out.below hb).bd.row).2.1 7⟩);have OP:Hid (∀ W iv3 X3,CiAt jT Tryz.prog B cb W K y.2 iv3 X3 sc b jv k→Step cb (ML iv jv b) (ML iv3 jv b) w W→Calls Tryz.prog 224 #[.pointer (some ⟨b.bb,0,none⟩)] W (LnR B cb K R iv3 jv sc b k W)):=hid (fun W iv3 X3 hC hS=>by
  rw [hR];exact i_leave B cb K y.2 iv3 X3 sc b jv k pa pc PX fa fc wb W hC (by omega) hsm (by rw [y4];have:=L.jl;omega) hP (L.wb'.trans ((L.at'.baseL hS).mono hBw)) h0b L.body.ou)
 have hln:(0:Int)<((exprAt K.E.p k).length:Int):=by omega
 obtain ⟨m,hm⟩:∃ m,(exprAt K.E.p k).length=m:=⟨_,rfl⟩;rw [hm] at HST EX hln;have TA0:∀ W,(Instr.typeAssert (.iface 253 (.agg #[.slice xe m xc])) 243 250 true).run Tryz.prog W=.ok (.tuple #[.agg #[.slice none 0 0,.string ⟨#[]⟩],.bool false]) W:=fun W=>by kernel_rfl
 have TA1:∀ W,(Instr.typeAssert (.iface 253 (.agg #[.slice xe m xc])) 243 252 true).run Tryz.prog W=.ok (.tuple #[.agg #[.slice none 0 0],.bool false]) W:=fun W=>by kernel_rfl
 have TA2:∀ W,(Instr.typeAssert (.iface 253 (.agg #[.slice xe m xc])) 243 253 true).run Tryz.prog W=.ok (.tuple #[.agg #[.slice xe m xc],.bool true]) W:=fun W=>by kernel_rfl
 clear hP h60 hlb hinl hsl hcl hfun hfl hf0 hfe hel hloc hfk hke hkl h0b hex hl0 hl20 hnm hscan hy hky y1 y2 y3 y4 y5 hyl hsm hxe hbd0 hed hR hlt HCI HBO HW HP hr1 hm L hE
 go_enter Tryz.func214,Tryz.ntmps214
 go_upto_region 1 with fail;go_wp2_with fail;refine (HST.out _ HB0.out).mono ?_;rintro e w1 ⟨rfl,b1⟩;have HB1:Hid (Below w0.heap.size w0 w1):=hid b1;clear b1 z0 z1;go_wp2_with fail;refine calls_of (by kernel_rfl) ((i_visited xe m xc w1).mono ?_);rintro e w2 ⟨rfl,b2⟩;have HB2:Hid (Below w0.heap.size w0 w2):=hid (HB1.out.trans (b2.mono HB1.out.size));obtain ⟨p7,g7⟩:=PB.out _ HB2.out;clear b2;go_wp2_with fail;refine (EX.out _ HB2.out).mono ?_;rintro e w3 ⟨rfl,iv3,X3,HC3,HS3⟩;have HAL:Hid (Below w3.heap.size w3 (w3.alloc (.cells #[.slice xe m xc] 253))):=hid ((Below.refl _ _).alloc (Nat.le_refl _) _);have HS4:=hid (HS3.out.trans (Step.of_below HAL.out));go_wp2_with (go_at_call 224;(with_reducible refine (OP.out _ _ _ (HC3.out.below HAL.out) HS4.out).mono ?_);intro e w5 HJ;have HJ2:=hid HJ;clear HJ;obtain ⟨rfl,iv5,jv5,X5,HC5,HS5⟩:=HJ2.out)
 go_end0
 exact ⟨rfl,iv5,jv5,X5,HC5,hid (HS4.out.trans HS5.out)⟩
set_option maxRecDepth 100000 in
set_option maxHeartbeats 4000000 in
theorem i_line35 (B cb:Nat) (K:KcE) (pa:Option Addr) (pc:Nat) (PX:List LnL) (fa:Option Addr) (fc:Nat) (wb:World) (hP:PgI K pa pc PX fa fc wb) (hBw:wb.heap.size≤B) (n:Nat) (hE:∀ m,m≤n→IExprOk B cb K wb m)
  (scs:List ScL) (sc:ScL) (rest:List ScL) (k:Nat) (t R:CiS) (w:World) (iv:Value) (X:List ItW) (b:BdW) (jv:Value) (line:Nat)
  (hq:lkZ K.E.p (k:Int)=3∨lkZ K.E.p (k:Int)=5) (h:LineTo K.E n scs sc k t R) (L:LineAt B cb K wb scs sc rest k t R w iv X b jv line) :
  Calls Tryz.prog 214 #[.pointer (some ⟨b.bb,0,none⟩),.int .i64 (k:Int)] w (LnR B cb K R iv jv sc b k w):=by
 have h60:K.E.p.length≤60:=hP.ok.1.1;have hlb:=hP.ok.1.2;have hinl:=hP.inl;have hsl:scs.length≤4:=by have:=L.body.sf.2.1;omega
 have hcl:sc.chain.length≤4:=by have:=L.body.chn;omega
 have hfun:sc.f ∈ funs K.E.p:=by have:=L.body.so.f;rw [L.body.cur] at this;exact this
 obtain ⟨hfl,hf0,hfe,hel,hloc⟩:=fun_parts hP.ok hfun;have hfk:=L.fk;have hke:=L.ke;have hkl:k<K.E.p.length:=by omega
 have h0b:0≤beZ K.E.p (sc.f:Int):=by omega
 have hlt:(k:Int)<beZ K.E.p (sc.f:Int):=by
  rcases Int.lt_or_le (k:Int) (beZ K.E.p (sc.f:Int)) with h'|h'
  ·exact h'
  ·have:=beZ_7 K.E.p (sc.f:Int) h0b
   rw [show beZ K.E.p (sc.f:Int)=(k:Int) from by omega] at this;omega
 obtain ⟨hex,hl0,hl20,hnm,hscan⟩:=hP.expr hkl (by rcases hq with hq|hq <;> (rw [hq];rfl));unfold LineTo at h;rw [if_neg (by omega),if_neg (by omega)] at h;obtain ⟨y,hy,hR⟩:=h;have hR:R=jumpJ K.E y.2 11 (nxZ K.E.p k).toNat k sc.chain:=by rw [if_neg (by omega),if_neg (by omega),if_neg (by omega)] at hR;exact hR
 have hky:Kn K.E scs k:=fun u hu=>by
  rw [L.body.cur,show sc.locs=locZ K.E.p (sc.f:Int) from by have:=L.body.so.lo;rw [L.body.cur] at this;exact this];rw [exprAt_get _ _ hkl] at hu;exact line_in hP.ok hfun hfk hlt hkl u hu
 obtain ⟨y1,y2,y3,y4,y5⟩:=((cmi_bound (E:=K.E) h60 hlb) n).1 _ _ _ _ _ L.body.sf hy;have y1:t.items.length≤y.2.items.length:=y1;have y2:y.2.used≤max t.used (64*(K.E.inl+1)):=y2;have y3:y.2.depth=t.depth+1:=y3;have y4:y.2.jumps=t.jumps:=y4;have hyl:y.2.items.length≤1000000:=by
  have:=L.rl
  rw [hR] at this;have h2:y.2.items.length≤(jumpJ K.E y.2 11 (nxZ K.E.p k).toNat k sc.chain).items.length:=by unfold jumpJ emitJ;simp
  omega
 have hsm:Sm8 y.2:=⟨by have:=L.d0;omega,by have:=L.d1;omega,by omega⟩;obtain ⟨xe,xc,hxe,HST⟩:=hP.stmt hkl (by omega) (by omega);have HST:Hid (∀ W,Below wb.heap.size wb W→Calls Tryz.prog 221 #[.slice pa PX.length pc,.int .i64 (k:Int)] W fun e w'=>e=.returned (.iface 255 (.agg #[.slice xe (exprAt K.E.p k).length xc,.int .i64 ((nxZ K.E.p k).toNat:Int)]))∧Below W.heap.size W w'):=hid (fun W hb=>by
  have h:=HST W hb;rw [stmt_ask _ _ _ _ _ hq,to_ask hP.ok hfk hlt h0b hkl hq] at h;exact h)
 have HCI:=hid L.at';have HBO:=hid L.body;have HW:=hid L.wb';have HP:=hid hP;have q0:=L.at'.cells.1;have q6:w.cell? ⟨b.bb,6,none⟩=some (.int .i64 (line:Int)):=(blk L.at'.bd.row).1 6 _ rfl;have g6:w.frozen? ⟨b.bb,6,none⟩=false:=(blk L.at'.bd.row).2.1 6;have HC0:Hid (CiAt jT Tryz.prog B cb (w.setCell ⟨b.bb,6,none⟩ (.int .i64 (k:Int))) K t iv X sc b jv k):=hid (L.at'.cellB jT_ok 6 _ rfl rfl rfl rfl rfl rfl);have HS0:Hid (Step cb (ML iv jv b) (ML iv jv b) w (w.setCell ⟨b.bb,6,none⟩ (.int .i64 (k:Int)))):=hid (cellB_step w mem_ML 6 _);obtain ⟨w0,hw0⟩:∃ W,w.setCell ⟨b.bb,6,none⟩ (.int .i64 (k:Int))=W:=⟨_,rfl⟩;have HW0:=hid hw0;rw [hw0] at HC0 HS0;have HB0:Hid (Below wb.heap.size wb w0):=hid (L.wb'.trans ((L.at'.baseL HS0.out).mono hBw));have z0:=HC0.out.cells.1;have z1:w0.cell? ⟨cb,0,none⟩=some (.slice pa PX.length pc):=by rw [← hP.pv];exact (blk HC0.out.cc.row).1 0 _ rfl
 have hr1:w0.cell? ⟨b.bb,7,none⟩=some (.bool t.pend):=(blk HC0.out.bd.row).1 7 _ rfl;have hbd0:BodyOk K w0 sc rest scs b:=L.body.stepL L.at' HS0.out;have hed:((K.E.p.length:Int))≤60:=by omega
 have EX:Hid (∀ w1,Below w0.heap.size w0 w1→Calls Tryz.prog 222 #[.pointer (some ⟨b.bb,0,none⟩),.slice xe (exprAt K.E.p k).length xc,.int .i64 0] (w1.setCell ⟨b.bb,7,none⟩ (.bool true)) fun e w3=>e=.returned (.tuple #[])∧∃ iv3 X3,Hid (CiAt jT Tryz.prog B cb w3 K y.2 iv3 X3 sc b jv k)∧Hid (Step cb (ML iv jv b) (ML iv3 jv b) w w3)):=hid (fun w1 hb=>by
  have hC1:=HC0.out.below hb;have hC2:CiAt jT Tryz.prog B cb (w1.setCell ⟨b.bb,7,none⟩ (.bool true)) K { t with pend:=true } iv X sc b jv k:=hC1.cellB jT_ok 7 _ rfl rfl rfl rfl rfl rfl;have hS2:Step cb (ML iv jv b) (ML iv jv b) w (w1.setCell ⟨b.bb,7,none⟩ (.bool true)):=(HS0.out.trans (Step.of_below hb)).trans (cellB_step w1 mem_ML 7 _);have hW2:Below wb.heap.size wb (w1.setCell ⟨b.bb,7,none⟩ (.bool true)):=L.wb'.trans ((L.at'.baseL hS2).mono hBw);have h3:=hE n (Nat.le_refl _) scs sc rest k 0 { t with pend:=true } y _ iv X b jv xe xc hy (L.body.stepL L.at' hS2) hky hscan L.d0 (by have:=L.d1;show t.depth≤_;omega) hyl L.us hC2 hW2 hxe hl20 hnm;refine h3.mono ?_;rintro e w3 ⟨rfl,iv3,X3,hC3,hS3⟩;exact ⟨rfl,iv3,X3,hC3,hid (hS2.trans hS3.out.lines)⟩)
 have PB:Hid (∀ w1,Below w0.heap.size w0 w1→w1.cell? ⟨b.bb,7,none⟩=some (.bool t.pend)∧w1.frozen? ⟨b.bb,7,none⟩=false):=hid (fun w1 hb=>⟨(blk (HC0.out.below hb).bd.row).1 7 _ rfl,(blk (HC0.out.below hb).bd.row).2.1 7⟩);have OP:Hid (∀ W iv3 X3,CiAt jT Tryz.prog B cb W K y.2 iv3 X3 sc b jv k→Step cb (ML iv jv b) (ML iv3 jv b) w W→Calls Tryz.prog 225 #[.pointer (some ⟨b.bb,0,none⟩),.int .i64 11,.int .i64 ((nxZ K.E.p k).toNat:Int)] W (LnR B cb K R iv3 jv sc b k W)):=hid (fun W iv3 X3 hC hS=>by
  rw [hR];exact i_jump B cb K y.2 iv3 X3 sc b jv k 11 (nxZ K.E.p k).toNat k W hC (by omega) hsm (by rw [y4];have:=L.jl;omega) rfl)
 obtain ⟨tt,htt⟩:∃ tt:Nat,(nxZ K.E.p k).toNat=tt:=⟨_,rfl⟩;rw [htt] at OP HST;have hln:(0:Int)<((exprAt K.E.p k).length:Int):=by omega
 obtain ⟨m,hm⟩:∃ m,(exprAt K.E.p k).length=m:=⟨_,rfl⟩;rw [hm] at HST EX hln;have TA0:∀ W,(Instr.typeAssert (.iface 255 (.agg #[.slice xe m xc,.int .i64 (tt:Int)])) 243 250 true).run Tryz.prog W=.ok (.tuple #[.agg #[.slice none 0 0,.string ⟨#[]⟩],.bool false]) W:=fun W=>by kernel_rfl
 have TA1:∀ W,(Instr.typeAssert (.iface 255 (.agg #[.slice xe m xc,.int .i64 (tt:Int)])) 243 252 true).run Tryz.prog W=.ok (.tuple #[.agg #[.slice none 0 0],.bool false]) W:=fun W=>by kernel_rfl
 have TA2:∀ W,(Instr.typeAssert (.iface 255 (.agg #[.slice xe m xc,.int .i64 (tt:Int)])) 243 253 true).run Tryz.prog W=.ok (.tuple #[.agg #[.slice none 0 0],.bool false]) W:=fun W=>by kernel_rfl
 have TA3:∀ W,(Instr.typeAssert (.iface 255 (.agg #[.slice xe m xc,.int .i64 (tt:Int)])) 243 255 true).run Tryz.prog W=.ok (.tuple #[.agg #[.slice xe m xc,.int .i64 (tt:Int)],.bool true]) W:=fun W=>by kernel_rfl
 clear hP h60 hlb hinl hsl hcl hfun hfl hf0 hfe hel hloc hfk hke hkl h0b hex hl0 hl20 hnm hscan hy hky y1 y2 y3 y4 y5 hyl hsm hxe hbd0 hed hR hlt HCI HBO HW HP hr1 hm htt L hE
 go_enter Tryz.func214,Tryz.ntmps214
 go_upto_region 1 with fail;go_wp2_with fail;refine (HST.out _ HB0.out).mono ?_;rintro e w1 ⟨rfl,b1⟩;have HB1:Hid (Below w0.heap.size w0 w1):=hid b1;clear b1 z0 z1;go_wp2_with fail;refine calls_of (by kernel_rfl) ((i_visited xe m xc w1).mono ?_);rintro e w2 ⟨rfl,b2⟩;have HB2:Hid (Below w0.heap.size w0 w2):=hid (HB1.out.trans (b2.mono HB1.out.size));obtain ⟨p7,g7⟩:=PB.out _ HB2.out;clear b2;go_wp2_with fail;refine (EX.out _ HB2.out).mono ?_;rintro e w3 ⟨rfl,iv3,X3,HC3,HS3⟩;have HAL:Hid (Below w3.heap.size w3 (w3.alloc (.cells #[.slice xe m xc,.int .i64 (tt:Int)] 255))):=hid ((Below.refl _ _).alloc (Nat.le_refl _) _);have HS4:=hid (HS3.out.trans (Step.of_below HAL.out));go_wp2_with (go_at_call 225;(with_reducible refine (OP.out _ _ _ (HC3.out.below HAL.out) HS4.out).mono ?_);intro e w5 HJ;have HJ2:=hid HJ;clear HJ;obtain ⟨rfl,iv5,jv5,X5,HC5,HS5⟩:=HJ2.out)
 go_end0
 exact ⟨rfl,iv5,jv5,X5,HC5,hid (HS4.out.trans HS5.out)⟩
set_option maxRecDepth 100000 in
set_option maxHeartbeats 4000000 in
theorem i_line1 (B cb:Nat) (K:KcE) (pa:Option Addr) (pc:Nat) (PX:List LnL) (fa:Option Addr) (fc:Nat) (wb:World) (hP:PgI K pa pc PX fa fc wb) (hBw:wb.heap.size≤B) (n:Nat) (hE:∀ m,m≤n→IExprOk B cb K wb m)
  (scs:List ScL) (sc:ScL) (rest:List ScL) (k:Nat) (t R:CiS) (w:World) (iv:Value) (X:List ItW) (b:BdW) (jv:Value) (line:Nat)
  (hq:lkZ K.E.p (k:Int)=1) (h:LineTo K.E n scs sc k t R) (L:LineAt B cb K wb scs sc rest k t R w iv X b jv line) :
  Calls Tryz.prog 214 #[.pointer (some ⟨b.bb,0,none⟩),.int .i64 (k:Int)] w (LnR B cb K R iv jv sc b k w):=by
 have h60:K.E.p.length≤60:=hP.ok.1.1;have hlb:=hP.ok.1.2;have hinl:=hP.inl;have hsl:scs.length≤4:=by have:=L.body.sf.2.1;omega
 have hcl:sc.chain.length≤4:=by have:=L.body.chn;omega
 have hfun:sc.f ∈ funs K.E.p:=by have:=L.body.so.f;rw [L.body.cur] at this;exact this
 obtain ⟨hfl,hf0,hfe,hel,hloc⟩:=fun_parts hP.ok hfun;have hfk:=L.fk;have hke:=L.ke;have hkl:k<K.E.p.length:=by omega
 have h0b:0≤beZ K.E.p (sc.f:Int):=by omega
 have hlt:(k:Int)<beZ K.E.p (sc.f:Int):=by
  rcases Int.lt_or_le (k:Int) (beZ K.E.p (sc.f:Int)) with h'|h'
  ·exact h'
  ·have:=beZ_7 K.E.p (sc.f:Int) h0b
   rw [show beZ K.E.p (sc.f:Int)=(k:Int) from by omega] at this;omega
 obtain ⟨hex,hl0,hl20,hnm,hscan⟩:=hP.expr hkl (by rw [hq];rfl);unfold LineTo at h;rw [if_neg (by omega),if_neg (by omega)] at h;obtain ⟨y,hy,hR⟩:=h;have hR:R=storeJ K.E y.2 sc (varIx sc.locs (nameAt K.E.p k)) k sc.chain:=by rw [if_pos hq] at hR;exact hR
 have hky:Kn K.E scs k:=fun u hu=>by
  rw [L.body.cur,show sc.locs=locZ K.E.p (sc.f:Int) from by have:=L.body.so.lo;rw [L.body.cur] at this;exact this];rw [exprAt_get _ _ hkl] at hu;exact line_in hP.ok hfun hfk hlt hkl u hu
 obtain ⟨y1,y2,y3,y4,y5⟩:=((cmi_bound (E:=K.E) h60 hlb) n).1 _ _ _ _ _ L.body.sf hy;have y1:t.items.length≤y.2.items.length:=y1;have y2:y.2.used≤max t.used (64*(K.E.inl+1)):=y2;have y3:y.2.depth=t.depth+1:=y3;have y4:y.2.jumps=t.jumps:=y4;have hyl:y.2.items.length≤1000000:=by
  have:=L.rl
  rw [hR] at this;have h2:y.2.items.length≤(storeJ K.E y.2 sc (varIx sc.locs (nameAt K.E.p k)) k sc.chain).items.length:=by unfold storeJ incJ emitJ;simp
  omega
 have hsm:Sm8 y.2:=⟨by have:=L.d0;omega,by have:=L.d1;omega,by omega⟩;obtain ⟨xe,xc,hxe,HST⟩:=hP.stmt hkl (by omega) (by omega);have HST:Hid (∀ W,Below wb.heap.size wb W→Calls Tryz.prog 221 #[.slice pa PX.length pc,.int .i64 (k:Int)] W fun e w'=>e=.returned (.iface 250 (.agg #[.slice xe (exprAt K.E.p k).length xc,.string (nameAt K.E.p k)]))∧Below W.heap.size W w'):=hid (fun W hb=>by
  have h:=HST W hb;rw [hq,show stmtV 1 (.slice xe (exprAt K.E.p k).length xc) (nameAt K.E.p k) (stmtTo K.E.p k) (lkZ K.E.p (endOpen K.E.p k:Int))=.iface 250 (.agg #[.slice xe (exprAt K.E.p k).length xc,.string (nameAt K.E.p k)]) from rfl] at h;exact h)
 have HCI:=hid L.at';have HBO:=hid L.body;have HW:=hid L.wb';have HP:=hid hP;have q0:=L.at'.cells.1;have q6:w.cell? ⟨b.bb,6,none⟩=some (.int .i64 (line:Int)):=(blk L.at'.bd.row).1 6 _ rfl;have g6:w.frozen? ⟨b.bb,6,none⟩=false:=(blk L.at'.bd.row).2.1 6;have HC0:Hid (CiAt jT Tryz.prog B cb (w.setCell ⟨b.bb,6,none⟩ (.int .i64 (k:Int))) K t iv X sc b jv k):=hid (L.at'.cellB jT_ok 6 _ rfl rfl rfl rfl rfl rfl);have HS0:Hid (Step cb (ML iv jv b) (ML iv jv b) w (w.setCell ⟨b.bb,6,none⟩ (.int .i64 (k:Int)))):=hid (cellB_step w mem_ML 6 _);obtain ⟨w0,hw0⟩:∃ W,w.setCell ⟨b.bb,6,none⟩ (.int .i64 (k:Int))=W:=⟨_,rfl⟩;have HW0:=hid hw0;rw [hw0] at HC0 HS0;have HB0:Hid (Below wb.heap.size wb w0):=hid (L.wb'.trans ((L.at'.baseL HS0.out).mono hBw));have z0:=HC0.out.cells.1;have z1:w0.cell? ⟨cb,0,none⟩=some (.slice pa PX.length pc):=by rw [← hP.pv];exact (blk HC0.out.cc.row).1 0 _ rfl
 have hr1:w0.cell? ⟨b.bb,7,none⟩=some (.bool t.pend):=(blk HC0.out.bd.row).1 7 _ rfl;have hbd0:BodyOk K w0 sc rest scs b:=L.body.stepL L.at' HS0.out;have hed:((K.E.p.length:Int))≤60:=by omega
 have EX:Hid (∀ w1,Below w0.heap.size w0 w1→Calls Tryz.prog 222 #[.pointer (some ⟨b.bb,0,none⟩),.slice xe (exprAt K.E.p k).length xc,.int .i64 0] (w1.setCell ⟨b.bb,7,none⟩ (.bool true)) fun e w3=>e=.returned (.tuple #[])∧∃ iv3 X3,Hid (CiAt jT Tryz.prog B cb w3 K y.2 iv3 X3 sc b jv k)∧Hid (Step cb (ML iv jv b) (ML iv3 jv b) w w3)):=hid (fun w1 hb=>by
  have hC1:=HC0.out.below hb;have hC2:CiAt jT Tryz.prog B cb (w1.setCell ⟨b.bb,7,none⟩ (.bool true)) K { t with pend:=true } iv X sc b jv k:=hC1.cellB jT_ok 7 _ rfl rfl rfl rfl rfl rfl;have hS2:Step cb (ML iv jv b) (ML iv jv b) w (w1.setCell ⟨b.bb,7,none⟩ (.bool true)):=(HS0.out.trans (Step.of_below hb)).trans (cellB_step w1 mem_ML 7 _);have hW2:Below wb.heap.size wb (w1.setCell ⟨b.bb,7,none⟩ (.bool true)):=L.wb'.trans ((L.at'.baseL hS2).mono hBw);have h3:=hE n (Nat.le_refl _) scs sc rest k 0 { t with pend:=true } y _ iv X b jv xe xc hy (L.body.stepL L.at' hS2) hky hscan L.d0 (by have:=L.d1;show t.depth≤_;omega) hyl L.us hC2 hW2 hxe hl20 hnm;refine h3.mono ?_;rintro e w3 ⟨rfl,iv3,X3,hC3,hS3⟩;exact ⟨rfl,iv3,X3,hC3,hid (hS2.trans hS3.out.lines)⟩)
 have PB:Hid (∀ w1,Below w0.heap.size w0 w1→w1.cell? ⟨b.bb,7,none⟩=some (.bool t.pend)∧w1.frozen? ⟨b.bb,7,none⟩=false):=hid (fun w1 hb=>⟨(blk (HC0.out.below hb).bd.row).1 7 _ rfl,(blk (HC0.out.below hb).bd.row).2.1 7⟩);have hmem:nameAt K.E.p k ∈ sc.locs:=by
  rw [show sc.locs=locZ K.E.p (sc.f:Int) from by have:=L.body.so.lo;rw [L.body.cur] at this;exact this];have h1:=loc_set hP.ok hfun hfk hlt hkl (by rw [← lkZ_at _ _ hkl];exact hq);unfold nameAt;rw [List.getElem?_eq_getElem hkl];exact h1
 have hix:varIx sc.locs (nameAt K.E.p k)<sc.locs.length:=List.findIdx_lt_length_of_exists ⟨_,hmem,by simp⟩;have hfr:freeN K.E sc≤1000:=by have h:=L.body.sf.2.2;rw [L.body.cur] at h;omega
 have hsl2:=slot_small K.E sc (varIx sc.locs (nameAt K.E.p k)) hix hfr (by have:=hP.args;omega);have hns:(nameAt K.E.p k).size≤maxLen:=by
  have h2:=((lineB_iff _).1 (hlb _ (List.getElem_mem hkl))).2.1;rw [← lkZ_at _ _ hkl,hq] at h2;have h4:nameB K.E.p[k].name=true:=h2;have h5:=(nameB_size _ h4).2.1;unfold nameAt;rw [List.getElem?_eq_getElem hkl]
  show K.E.p[k].name.size≤maxLen
  unfold maxLen;omega
 have LK:Hid (∀ W iv3 X3,CiAt jT Tryz.prog B cb W K y.2 iv3 X3 sc b jv k→(Instr.lookup 177 (.map (some b.mb)) (.string (nameAt K.E.p k)) false).run Tryz.prog W=.ok (.int .i64 (slotZ K.E sc (varIx sc.locs (nameAt K.E.p k)))) W):=hid (fun W iv3 X3 hC=>by
  obtain ⟨nn,D,d1,d2,_⟩:=hC.bd.slots;obtain ⟨c,hrun,hat,_⟩:=d1.lookup_int keyS Tryz.underlying177 Tryz.underlying3 (zerI _) (keyS_of hns);have h3:=d2 (nameAt K.E.p k) hmem;rw [h3] at hat;injection hat with hat
  injection hat with _ hat
  rw [hat];exact hrun)
 have OP:Hid (∀ W iv3 X3,CiAt jT Tryz.prog B cb W K y.2 iv3 X3 sc b jv k→Step cb (ML iv jv b) (ML iv3 jv b) w W→Calls Tryz.prog 223 #[.pointer (some ⟨b.bb,0,none⟩),.int .i64 (slotZ K.E sc (varIx sc.locs (nameAt K.E.p k)))] W (LnR B cb K R iv3 jv sc b k W)):=hid (fun W iv3 X3 hC hS=>by
  rw [hR];exact (i_store B cb K y.2 iv3 X3 sc b jv k sc (varIx sc.locs (nameAt K.E.p k)) W hC (by omega) hsm (by omega) (by omega)).mono fun e w' h=>h.lines)
 obtain ⟨sz,hsz⟩:∃ sz,slotZ K.E sc (varIx sc.locs (nameAt K.E.p k))=sz:=⟨_,rfl⟩;rw [hsz] at OP LK;obtain ⟨nm,hnmm⟩:∃ nm,nameAt K.E.p k=nm:=⟨_,rfl⟩;rw [hnmm] at LK HST;have hln:(0:Int)<((exprAt K.E.p k).length:Int):=by omega
 obtain ⟨m,hm⟩:∃ m,(exprAt K.E.p k).length=m:=⟨_,rfl⟩;rw [hm] at HST EX hln;have TA0:∀ W,(Instr.typeAssert (.iface 250 (.agg #[.slice xe m xc,.string nm])) 243 250 true).run Tryz.prog W=.ok (.tuple #[.agg #[.slice xe m xc,.string nm],.bool true]) W:=fun W=>by kernel_rfl
 clear hP h60 hlb hinl hsl hcl hfun hfl hf0 hfe hel hloc hfk hke hkl h0b hex hl0 hl20 hnm hscan hy hky y1 y2 y3 y4 y5 hyl hsm hxe hbd0 hed hR hlt HCI HBO HW HP hr1 hm hmem hix hfr hsl2 hns hsz hnmm L hE
 go_enter Tryz.func214,Tryz.ntmps214
 go_upto_region 1 with fail;go_wp2_with fail;refine (HST.out _ HB0.out).mono ?_;rintro e w1 ⟨rfl,b1⟩;have HB1:Hid (Below w0.heap.size w0 w1):=hid b1;clear b1 z0 z1;go_wp2_with fail;refine calls_of (by kernel_rfl) ((i_visited xe m xc w1).mono ?_);rintro e w2 ⟨rfl,b2⟩;have HB2:Hid (Below w0.heap.size w0 w2):=hid (HB1.out.trans (b2.mono HB1.out.size));obtain ⟨p7,g7⟩:=PB.out _ HB2.out;clear b2;go_wp2_with fail;refine (EX.out _ HB2.out).mono ?_;rintro e w3 ⟨rfl,iv3,X3,HC3,HS3⟩;obtain ⟨w4,hw4⟩:∃ W,w3.alloc (.cells #[.slice xe m xc,.string nm] 250)=W:=⟨_,rfl⟩;have HAL:Hid (Below w3.heap.size w3 w4):=hid (by rw [← hw4];exact (Below.refl _ _).alloc (Nat.le_refl _) _);have HTR:Hid (w4.heap[w3.heap.size]?=some (.cells #[.slice xe m xc,.string nm] 250 (0,0))):=hid (by rw [← hw4];exact heap_alloc_new w3 _);have HS4:=hid (HS3.out.trans (Step.of_below HAL.out));have HC4:=hid (HC3.out.below HAL.out);have SS:Hid (∀ W,Below w4.heap.size w4 W→W.cell? ⟨b.bb,4,none⟩=some (.map (some b.mb))∧W.cell? ⟨w3.heap.size,1,none⟩=some (.string nm)∧(Instr.lookup 177 (.map (some b.mb)) (.string nm) false).run Tryz.prog W=.ok (.int .i64 sz) W):=hid (fun W hb=>⟨(blk (HC4.out.below hb).bd.row).1 4 _ rfl,(blk ((hb.block _ (blk HTR.out).2.2).trans HTR.out)).1 1 _ rfl,LK.out _ _ _ (HC4.out.below hb)⟩);have DT:Hid (Below w4.heap.size w4 w4.drew):=hid (Below.refl _ _).drew;go_upto_region 9 with fail;refine E_start (S:=(fun w'=>w'.cell? ⟨b.bb,4,none⟩=some (.map (some b.mb))∧w'.cell? ⟨w3.heap.size,1,none⟩=some (.string nm)∧(Instr.lookup 177 (.map (some b.mb)) (.string nm) false).run Tryz.prog w'=.ok (.int .i64 sz) w')) 8 (by kernel_rfl) (SS.out _ DT.out) (fun hHeld=>?_);refine E_tk 0 ?_
 try simp only [Act.put,eS1,eS2,eS3,eA1,eA2,eA3]
 refine E_tk 1 ?_
 try simp only [Act.put,eS1,eS2,eS3,eA1,eA2,eA3]
 refine E_tk 2 ?_
 try simp only [Act.put,eS1,eS2,eS3,eA1,eA2,eA3]
 refine E_tk 3 ?_
 try simp only [Act.put,eS1,eS2,eS3,eA1,eA2,eA3]
 refine E_tk 4 ?_
 try simp only [Act.put,eS1,eS2,eS3,eA1,eA2,eA3]
 refine E_tk 5 ?_
 try simp only [Act.put,eS1,eS2,eS3,eA1,eA2,eA3]
 refine E_tk 6 ?_
 try simp only [Act.put,eS1,eS2,eS3,eA1,eA2,eA3]
 refine E_tk 7 ?_
 try simp only [Act.put,eS1,eS2,eS3,eA1,eA2,eA3]
 refine E_last (o:=_) (by kernel_rfl) rfl (by kernel_rfl) (fun K0 hK=>?_)
 try simp only [eA1,eA2,eA3]
 go_simp
 refine (OP.out _ _ _ (HC4.out.below DT.out) (HS4.out.trans (Step.of_below DT.out))).mono ?_;intro e w5 HJ;have HJ2:=hid HJ;clear HJ;obtain ⟨rfl,iv5,jv5,X5,HC5,HS5⟩:=HJ2.out;go_wp2_with fail;refine hK.out _ _ ?_;clear hK K0;go_wp2_with fail
 go_end0
 exact ⟨rfl,iv5,jv5,X5,HC5,hid ((HS4.out.trans (Step.of_below DT.out)).trans HS5.out)⟩
set_option maxRecDepth 100000 in
set_option maxHeartbeats 4000000 in
theorem i_line4 (B cb:Nat) (K:KcE) (pa:Option Addr) (pc:Nat) (PX:List LnL) (fa:Option Addr) (fc:Nat) (wb:World) (hP:PgI K pa pc PX fa fc wb) (hBw:wb.heap.size≤B) (n:Nat)
  (scs:List ScL) (sc:ScL) (rest:List ScL) (k:Nat) (t R:CiS) (w:World) (iv:Value) (X:List ItW) (b:BdW) (jv:Value) (line:Nat)
  (hq:lkZ K.E.p (k:Int)=4) (h:LineTo K.E n scs sc k t R) (L:LineAt B cb K wb scs sc rest k t R w iv X b jv line) :
  Calls Tryz.prog 214 #[.pointer (some ⟨b.bb,0,none⟩),.int .i64 (k:Int)] w (LnR B cb K R iv jv sc b k w):=by
 have h60:K.E.p.length≤60:=hP.ok.1.1;have hlb:=hP.ok.1.2;have hinl:=hP.inl;have hsl:scs.length≤4:=by have:=L.body.sf.2.1;omega
 have hcl:sc.chain.length≤4:=by have:=L.body.chn;omega
 have hfun:sc.f ∈ funs K.E.p:=by have:=L.body.so.f;rw [L.body.cur] at this;exact this
 obtain ⟨hfl,hf0,hfe,hel,hloc⟩:=fun_parts hP.ok hfun;have hfk:=L.fk;have hke:=L.ke;have hkl:k<K.E.p.length:=by omega
 have h0b:0≤beZ K.E.p (sc.f:Int):=by omega
 unfold LineTo at h;rw [if_pos hq] at h;have hR:=h;have hRl:t.items.length≤R.items.length:=by rw [hR];unfold jumpJ emitJ;simp
 have hsm:Sm8 t:=⟨by have:=L.d0;omega,by have:=L.d1;omega,by have:=L.rl;have:=hRl;omega⟩;obtain ⟨xe,xc,hxe,HST⟩:=hP.stmt hkl (by omega) (by omega);have HST:Hid (∀ W,Below wb.heap.size wb W→Calls Tryz.prog 221 #[.slice pa PX.length pc,.int .i64 (k:Int)] W fun e w'=>e=.returned (.iface 259 (.agg #[.int .i64 ((nxZ K.E.p k).toNat:Int)]))∧Below W.heap.size W w'):=hid (fun W hb=>by
  have h:=HST W hb;rw [hq,show stmtV 4 (.slice xe (exprAt K.E.p k).length xc) (nameAt K.E.p k) (stmtTo K.E.p k) (lkZ K.E.p (endOpen K.E.p k:Int))=.iface 259 (.agg #[.int .i64 (stmtTo K.E.p k)]) from rfl,to_else hP.ok hkl hq] at h;exact h)
 have HCI:=hid L.at';have HBO:=hid L.body;have HW:=hid L.wb';have HP:=hid hP;have q0:=L.at'.cells.1;have q6:w.cell? ⟨b.bb,6,none⟩=some (.int .i64 (line:Int)):=(blk L.at'.bd.row).1 6 _ rfl;have g6:w.frozen? ⟨b.bb,6,none⟩=false:=(blk L.at'.bd.row).2.1 6;have HC0:Hid (CiAt jT Tryz.prog B cb (w.setCell ⟨b.bb,6,none⟩ (.int .i64 (k:Int))) K t iv X sc b jv k):=hid (L.at'.cellB jT_ok 6 _ rfl rfl rfl rfl rfl rfl);have HS0:Hid (Step cb (ML iv jv b) (ML iv jv b) w (w.setCell ⟨b.bb,6,none⟩ (.int .i64 (k:Int)))):=hid (cellB_step w mem_ML 6 _);obtain ⟨w0,hw0⟩:∃ W,w.setCell ⟨b.bb,6,none⟩ (.int .i64 (k:Int))=W:=⟨_,rfl⟩;have HW0:=hid hw0;rw [hw0] at HC0 HS0;have HB0:Hid (Below wb.heap.size wb w0):=hid (L.wb'.trans ((L.at'.baseL HS0.out).mono hBw));have z0:=HC0.out.cells.1;have z1:w0.cell? ⟨cb,0,none⟩=some (.slice pa PX.length pc):=by rw [← hP.pv];exact (blk HC0.out.cc.row).1 0 _ rfl
 have HRE:=hid hR;have OP:Hid (∀ W,Below w0.heap.size w0 W→Calls Tryz.prog 225 #[.pointer (some ⟨b.bb,0,none⟩),.int .i64 10,.int .i64 ((nxZ K.E.p k).toNat:Int)] W (LnR B cb K R iv jv sc b k W)):=hid (fun W hb=>by
  rw [hR];exact i_jump B cb K t iv X sc b jv k 10 ((nxZ K.E.p k).toNat) k W (HC0.out.below hb) (by omega) hsm (by have:=L.jl;have:=L.rl;omega) rfl)
 obtain ⟨tt,htt⟩:∃ tt:Nat,(nxZ K.E.p k).toNat=tt:=⟨_,rfl⟩;rw [htt] at OP HST;have TA0:∀ W,(Instr.typeAssert (.iface 259 (.agg #[.int .i64 (tt:Int)])) 243 250 true).run Tryz.prog W=.ok (.tuple #[.agg #[.slice none 0 0,.string ⟨#[]⟩],.bool false]) W:=fun W=>by kernel_rfl
 have TA1:∀ W,(Instr.typeAssert (.iface 259 (.agg #[.int .i64 (tt:Int)])) 243 252 true).run Tryz.prog W=.ok (.tuple #[.agg #[.slice none 0 0],.bool false]) W:=fun W=>by kernel_rfl
 have TA2:∀ W,(Instr.typeAssert (.iface 259 (.agg #[.int .i64 (tt:Int)])) 243 253 true).run Tryz.prog W=.ok (.tuple #[.agg #[.slice none 0 0],.bool false]) W:=fun W=>by kernel_rfl
 have TA3:∀ W,(Instr.typeAssert (.iface 259 (.agg #[.int .i64 (tt:Int)])) 243 255 true).run Tryz.prog W=.ok (.tuple #[.agg #[.slice none 0 0,.int .i64 0],.bool false]) W:=fun W=>by kernel_rfl
 have TA4:∀ W,(Instr.typeAssert (.iface 259 (.agg #[.int .i64 (tt:Int)])) 243 259 true).run Tryz.prog W=.ok (.tuple #[.agg #[.int .i64 (tt:Int)],.bool true]) W:=fun W=>by kernel_rfl
 have HLU:=hid L.body.ou;have LB0:Hid (∀ w',Below w0.heap.size w0 w'→Step cb (ML iv jv b) (ML iv jv b) w w'):=hid (fun w' hb=>HS0.out.trans (Step.of_below hb));clear hP h60 hlb hinl hsl hcl hfun hfl hf0 hfe hel hloc hfk hke hkl h0b hsm hxe HCI HBO HW HP hR hRl htt h L
 go_enter Tryz.func214,Tryz.ntmps214
 go_upto_region 1 with fail;go_wp2_with fail;refine (HST.out _ HB0.out).mono ?_;rintro e w1 ⟨rfl,b1⟩;have HB1:Hid (Below w0.heap.size w0 w1):=hid b1;clear b1 z0 z1;go_wp2_with fail;refine calls_of (by kernel_rfl) ((i_unvisited w1).mono ?_);rintro e w3 ⟨rfl,b2⟩;have HB3:Hid (Below w0.heap.size w0 w3):=hid (HB1.out.trans (b2.mono HB1.out.size));clear b2;have HAL:Hid (Below w0.heap.size w0 (w3.alloc (.cells #[.int .i64 (tt:Int)] 259))):=hid (HB3.out.trans ((Below.refl _ _).alloc (Nat.le_refl _) _ |>.mono HB3.out.size));go_wp2_with (go_at_call 225;(with_reducible refine (OP.out _ HAL.out).mono ?_);intro e w5 HJ;have HJ2:=hid HJ;clear HJ;obtain ⟨rfl,iv5,jv5,X5,HC5,HS5⟩:=HJ2.out)
 go_end0
 exact ⟨rfl,iv5,jv5,X5,HC5,hid ((LB0.out _ HAL.out).trans HS5.out)⟩
set_option maxRecDepth 100000 in
set_option maxHeartbeats 4000000 in
theorem i_line7w (B cb:Nat) (K:KcE) (pa:Option Addr) (pc:Nat) (PX:List LnL) (fa:Option Addr) (fc:Nat) (wb:World) (hP:PgI K pa pc PX fa fc wb) (hBw:wb.heap.size≤B) (n:Nat)
  (scs:List ScL) (sc:ScL) (rest:List ScL) (k:Nat) (t R:CiS) (w:World) (iv:Value) (X:List ItW) (b:BdW) (jv:Value) (line:Nat)
  (hq:lkZ K.E.p (k:Int)=7∧lkZ K.E.p (endOpen K.E.p k:Int)=5) (h:LineTo K.E n scs sc k t R) (L:LineAt B cb K wb scs sc rest k t R w iv X b jv line) :
  Calls Tryz.prog 214 #[.pointer (some ⟨b.bb,0,none⟩),.int .i64 (k:Int)] w (LnR B cb K R iv jv sc b k w):=by
 have h60:K.E.p.length≤60:=hP.ok.1.1;have hlb:=hP.ok.1.2;have hinl:=hP.inl;have hsl:scs.length≤4:=by have:=L.body.sf.2.1;omega
 have hcl:sc.chain.length≤4:=by have:=L.body.chn;omega
 have hfun:sc.f ∈ funs K.E.p:=by have:=L.body.so.f;rw [L.body.cur] at this;exact this
 obtain ⟨hfl,hf0,hfe,hel,hloc⟩:=fun_parts hP.ok hfun;have hfk:=L.fk;have hke:=L.ke;have hkl:k<K.E.p.length:=by omega
 have h0b:0≤beZ K.E.p (sc.f:Int):=by omega
 unfold LineTo at h;rw [if_neg (by omega),if_pos hq.1] at h;obtain ⟨hc1,hc2,hc3⟩:=close_has h0b hfk hke hq.1;have hne:¬ (k:Int)=beZ K.E.p (sc.f:Int):=fun e=>by
  obtain ⟨e1,e2⟩:=close_fun hfun h0b hfk e;rw [e1,e2] at hq;exact absurd hq.2 (by decide)
 rw [if_neg hne,if_pos hq.2] at h;have hR:=h;have hRl:t.items.length≤R.items.length:=by rw [hR];unfold jumpJ emitJ;simp
 have hsm:Sm8 t:=⟨by have:=L.d0;omega,by have:=L.d1;omega,by have:=L.rl;have:=hRl;omega⟩;obtain ⟨xe,xc,hxe,HST⟩:=hP.stmt hkl (by omega) (by exact fun _=>hc1);have HST:Hid (∀ W,Below wb.heap.size wb W→Calls Tryz.prog 221 #[.slice pa PX.length pc,.int .i64 (k:Int)] W fun e w'=>e=.returned (.iface 259 (.agg #[.int .i64 (endOpen K.E.p k:Int)]))∧Below W.heap.size W w'):=hid (fun W hb=>by
  have h:=HST W hb;rw [hq.1,hq.2,show stmtV 7 (.slice xe (exprAt K.E.p k).length xc) (nameAt K.E.p k) (stmtTo K.E.p k) 5=.iface 259 (.agg #[.int .i64 (stmtTo K.E.p k)]) from rfl,show stmtTo K.E.p k=(endOpen K.E.p k:Int) from if_pos hq.1] at h;exact h)
 have HCI:=hid L.at';have HBO:=hid L.body;have HW:=hid L.wb';have HP:=hid hP;have q0:=L.at'.cells.1;have q6:w.cell? ⟨b.bb,6,none⟩=some (.int .i64 (line:Int)):=(blk L.at'.bd.row).1 6 _ rfl;have g6:w.frozen? ⟨b.bb,6,none⟩=false:=(blk L.at'.bd.row).2.1 6;have HC0:Hid (CiAt jT Tryz.prog B cb (w.setCell ⟨b.bb,6,none⟩ (.int .i64 (k:Int))) K t iv X sc b jv k):=hid (L.at'.cellB jT_ok 6 _ rfl rfl rfl rfl rfl rfl);have HS0:Hid (Step cb (ML iv jv b) (ML iv jv b) w (w.setCell ⟨b.bb,6,none⟩ (.int .i64 (k:Int)))):=hid (cellB_step w mem_ML 6 _);obtain ⟨w0,hw0⟩:∃ W,w.setCell ⟨b.bb,6,none⟩ (.int .i64 (k:Int))=W:=⟨_,rfl⟩;have HW0:=hid hw0;rw [hw0] at HC0 HS0;have HB0:Hid (Below wb.heap.size wb w0):=hid (L.wb'.trans ((L.at'.baseL HS0.out).mono hBw));have z0:=HC0.out.cells.1;have z1:w0.cell? ⟨cb,0,none⟩=some (.slice pa PX.length pc):=by rw [← hP.pv];exact (blk HC0.out.cc.row).1 0 _ rfl
 have HRE:=hid hR;have OP:Hid (∀ W,Below w0.heap.size w0 W→Calls Tryz.prog 225 #[.pointer (some ⟨b.bb,0,none⟩),.int .i64 10,.int .i64 (endOpen K.E.p k:Int)] W (LnR B cb K R iv jv sc b k W)):=hid (fun W hb=>by
  rw [hR];exact i_jump B cb K t iv X sc b jv k 10 (endOpen K.E.p k) k W (HC0.out.below hb) (by omega) hsm (by have:=L.jl;have:=L.rl;omega) rfl)
 obtain ⟨tt,htt⟩:∃ tt:Nat,endOpen K.E.p k=tt:=⟨_,rfl⟩;rw [htt] at OP HST;have TA0:∀ W,(Instr.typeAssert (.iface 259 (.agg #[.int .i64 (tt:Int)])) 243 250 true).run Tryz.prog W=.ok (.tuple #[.agg #[.slice none 0 0,.string ⟨#[]⟩],.bool false]) W:=fun W=>by kernel_rfl
 have TA1:∀ W,(Instr.typeAssert (.iface 259 (.agg #[.int .i64 (tt:Int)])) 243 252 true).run Tryz.prog W=.ok (.tuple #[.agg #[.slice none 0 0],.bool false]) W:=fun W=>by kernel_rfl
 have TA2:∀ W,(Instr.typeAssert (.iface 259 (.agg #[.int .i64 (tt:Int)])) 243 253 true).run Tryz.prog W=.ok (.tuple #[.agg #[.slice none 0 0],.bool false]) W:=fun W=>by kernel_rfl
 have TA3:∀ W,(Instr.typeAssert (.iface 259 (.agg #[.int .i64 (tt:Int)])) 243 255 true).run Tryz.prog W=.ok (.tuple #[.agg #[.slice none 0 0,.int .i64 0],.bool false]) W:=fun W=>by kernel_rfl
 have TA4:∀ W,(Instr.typeAssert (.iface 259 (.agg #[.int .i64 (tt:Int)])) 243 259 true).run Tryz.prog W=.ok (.tuple #[.agg #[.int .i64 (tt:Int)],.bool true]) W:=fun W=>by kernel_rfl
 have HLU:=hid L.body.ou;have LB0:Hid (∀ w',Below w0.heap.size w0 w'→Step cb (ML iv jv b) (ML iv jv b) w w'):=hid (fun w' hb=>HS0.out.trans (Step.of_below hb));clear hP h60 hlb hinl hsl hcl hfun hfl hf0 hfe hel hloc hfk hke hkl h0b hsm hxe HCI HBO HW HP hR hRl htt h hc1 hc2 hc3 hne hq L
 go_enter Tryz.func214,Tryz.ntmps214
 go_upto_region 1 with fail;go_wp2_with fail;refine (HST.out _ HB0.out).mono ?_;rintro e w1 ⟨rfl,b1⟩;have HB1:Hid (Below w0.heap.size w0 w1):=hid b1;clear b1 z0 z1;go_wp2_with fail;refine calls_of (by kernel_rfl) ((i_unvisited w1).mono ?_);rintro e w3 ⟨rfl,b2⟩;have HB3:Hid (Below w0.heap.size w0 w3):=hid (HB1.out.trans (b2.mono HB1.out.size));clear b2;have HAL:Hid (Below w0.heap.size w0 (w3.alloc (.cells #[.int .i64 (tt:Int)] 259))):=hid (HB3.out.trans ((Below.refl _ _).alloc (Nat.le_refl _) _ |>.mono HB3.out.size));go_wp2_with (go_at_call 225;(with_reducible refine (OP.out _ HAL.out).mono ?_);intro e w5 HJ;have HJ2:=hid HJ;clear HJ;obtain ⟨rfl,iv5,jv5,X5,HC5,HS5⟩:=HJ2.out)
 go_end0
 exact ⟨rfl,iv5,jv5,X5,HC5,hid ((LB0.out _ HAL.out).trans HS5.out)⟩
set_option maxRecDepth 100000 in
set_option maxHeartbeats 4000000 in
theorem i_line7i (B cb:Nat) (K:KcE) (pa:Option Addr) (pc:Nat) (PX:List LnL) (fa:Option Addr) (fc:Nat) (wb:World) (hP:PgI K pa pc PX fa fc wb) (hBw:wb.heap.size≤B) (n:Nat)
  (scs:List ScL) (sc:ScL) (rest:List ScL) (k:Nat) (t R:CiS) (w:World) (iv:Value) (X:List ItW) (b:BdW) (jv:Value) (line:Nat)
  (hq:lkZ K.E.p (k:Int)=7∧(k:Int)<beZ K.E.p (sc.f:Int)∧lkZ K.E.p (endOpen K.E.p k:Int)=3) (h:LineTo K.E n scs sc k t R) (L:LineAt B cb K wb scs sc rest k t R w iv X b jv line) :
  Calls Tryz.prog 214 #[.pointer (some ⟨b.bb,0,none⟩),.int .i64 (k:Int)] w (LnR B cb K R iv jv sc b k w):=by
 have h60:K.E.p.length≤60:=hP.ok.1.1;have hlb:=hP.ok.1.2;have hinl:=hP.inl;have hsl:scs.length≤4:=by have:=L.body.sf.2.1;omega
 have hcl:sc.chain.length≤4:=by have:=L.body.chn;omega
 have hfun:sc.f ∈ funs K.E.p:=by have:=L.body.so.f;rw [L.body.cur] at this;exact this
 obtain ⟨hfl,hf0,hfe,hel,hloc⟩:=fun_parts hP.ok hfun;have hfk:=L.fk;have hke:=L.ke;have hkl:k<K.E.p.length:=by omega
 have h0b:0≤beZ K.E.p (sc.f:Int):=by omega
 unfold LineTo at h;rw [if_neg (by omega),if_pos hq.1,if_neg (by omega),if_neg (by omega)] at h;obtain ⟨hc1,hc2,hc3⟩:=close_has h0b hfk hke hq.1;have hR:=h;have hRl:t.items.length≤R.items.length:=by rw [hR];exact Nat.le_refl _
 have hsm:Sm8 t:=⟨by have:=L.d0;omega,by have:=L.d1;omega,by have:=L.rl;have:=hRl;omega⟩;obtain ⟨xe,xc,hxe,HST⟩:=hP.stmt hkl (by omega) (by exact fun _=>hc1);have HST:Hid (∀ W,Below wb.heap.size wb W→Calls Tryz.prog 221 #[.slice pa PX.length pc,.int .i64 (k:Int)] W fun e w'=>e=.returned (.iface 263 (.agg #[]))∧Below W.heap.size W w'):=hid (fun W hb=>by
  have h:=HST W hb;rw [hq.1,hq.2.2,show stmtV 7 (.slice xe (exprAt K.E.p k).length xc) (nameAt K.E.p k) (stmtTo K.E.p k) 3=.iface 263 (.agg #[]) from rfl] at h;exact h)
 have HCI:=hid L.at';have HBO:=hid L.body;have HW:=hid L.wb';have HP:=hid hP;have q0:=L.at'.cells.1;have q6:w.cell? ⟨b.bb,6,none⟩=some (.int .i64 (line:Int)):=(blk L.at'.bd.row).1 6 _ rfl;have g6:w.frozen? ⟨b.bb,6,none⟩=false:=(blk L.at'.bd.row).2.1 6;have HC0:Hid (CiAt jT Tryz.prog B cb (w.setCell ⟨b.bb,6,none⟩ (.int .i64 (k:Int))) K t iv X sc b jv k):=hid (L.at'.cellB jT_ok 6 _ rfl rfl rfl rfl rfl rfl);have HS0:Hid (Step cb (ML iv jv b) (ML iv jv b) w (w.setCell ⟨b.bb,6,none⟩ (.int .i64 (k:Int)))):=hid (cellB_step w mem_ML 6 _);obtain ⟨w0,hw0⟩:∃ W,w.setCell ⟨b.bb,6,none⟩ (.int .i64 (k:Int))=W:=⟨_,rfl⟩;have HW0:=hid hw0;rw [hw0] at HC0 HS0;have HB0:Hid (Below wb.heap.size wb w0):=hid (L.wb'.trans ((L.at'.baseL HS0.out).mono hBw));have z0:=HC0.out.cells.1;have z1:w0.cell? ⟨cb,0,none⟩=some (.slice pa PX.length pc):=by rw [← hP.pv];exact (blk HC0.out.cc.row).1 0 _ rfl
 have HRE:=hid hR;have TA0:∀ W,(Instr.typeAssert (.iface 263 (.agg #[])) 243 250 true).run Tryz.prog W=.ok (.tuple #[.agg #[.slice none 0 0,.string ⟨#[]⟩],.bool false]) W:=fun W=>by kernel_rfl
 have TA1:∀ W,(Instr.typeAssert (.iface 263 (.agg #[])) 243 252 true).run Tryz.prog W=.ok (.tuple #[.agg #[.slice none 0 0],.bool false]) W:=fun W=>by kernel_rfl
 have TA2:∀ W,(Instr.typeAssert (.iface 263 (.agg #[])) 243 253 true).run Tryz.prog W=.ok (.tuple #[.agg #[.slice none 0 0],.bool false]) W:=fun W=>by kernel_rfl
 have TA3:∀ W,(Instr.typeAssert (.iface 263 (.agg #[])) 243 255 true).run Tryz.prog W=.ok (.tuple #[.agg #[.slice none 0 0,.int .i64 0],.bool false]) W:=fun W=>by kernel_rfl
 have TA4:∀ W,(Instr.typeAssert (.iface 263 (.agg #[])) 243 259 true).run Tryz.prog W=.ok (.tuple #[.agg #[.int .i64 0],.bool false]) W:=fun W=>by kernel_rfl
 have TA5:∀ W,(Instr.typeAssert (.iface 263 (.agg #[])) 243 261 true).run Tryz.prog W=.ok (.tuple #[.agg #[],.bool false]) W:=fun W=>by kernel_rfl
 have HLU:=hid L.body.ou;have LB0:Hid (∀ w',Below w0.heap.size w0 w'→Step cb (ML iv jv b) (ML iv jv b) w w'):=hid (fun w' hb=>HS0.out.trans (Step.of_below hb));clear hP h60 hlb hinl hsl hcl hfun hfl hf0 hfe hel hloc hfk hke hkl h0b hsm hxe HCI HBO HW HP hR hRl h hc1 hc2 hc3 hq L
 go_enter Tryz.func214,Tryz.ntmps214
 go_upto_region 1 with fail;go_wp2_with fail;refine (HST.out _ HB0.out).mono ?_;rintro e w1 ⟨rfl,b1⟩;have HB1:Hid (Below w0.heap.size w0 w1):=hid b1;clear b1 z0 z1;go_wp2_with fail;refine calls_of (by kernel_rfl) ((i_unvisited w1).mono ?_);rintro e w3 ⟨rfl,b2⟩;have HB3:Hid (Below w0.heap.size w0 w3):=hid (HB1.out.trans (b2.mono HB1.out.size));clear b2;go_wp2_with fail
 go_end0
 exact ⟨rfl,iv,jv,X,hid (by rw [HRE.out];exact HC0.out.below HB3.out),hid (LB0.out _ HB3.out)⟩
set_option maxRecDepth 100000 in
set_option maxHeartbeats 4000000 in
theorem i_line7ft (B cb:Nat) (K:KcE) (pa:Option Addr) (pc:Nat) (PX:List LnL) (fa:Option Addr) (fc:Nat) (wb:World) (hP:PgI K pa pc PX fa fc wb) (hBw:wb.heap.size≤B) (n:Nat)
  (scs:List ScL) (sc:ScL) (rest:List ScL) (k:Nat) (t R:CiS) (w:World) (iv:Value) (X:List ItW) (b:BdW) (jv:Value) (line:Nat)
  (hq:lkZ K.E.p (k:Int)=7∧(k:Int)=beZ K.E.p (sc.f:Int)∧sc.outer=true) (h:LineTo K.E n scs sc k t R) (L:LineAt B cb K wb scs sc rest k t R w iv X b jv line) :
  Calls Tryz.prog 214 #[.pointer (some ⟨b.bb,0,none⟩),.int .i64 (k:Int)] w (LnR B cb K R iv jv sc b k w):=by
 have h60:K.E.p.length≤60:=hP.ok.1.1;have hlb:=hP.ok.1.2;have hinl:=hP.inl;have hsl:scs.length≤4:=by have:=L.body.sf.2.1;omega
 have hcl:sc.chain.length≤4:=by have:=L.body.chn;omega
 have hfun:sc.f ∈ funs K.E.p:=by have:=L.body.so.f;rw [L.body.cur] at this;exact this
 obtain ⟨hfl,hf0,hfe,hel,hloc⟩:=fun_parts hP.ok hfun;have hfk:=L.fk;have hke:=L.ke;have hkl:k<K.E.p.length:=by omega
 have h0b:0≤beZ K.E.p (sc.f:Int):=by omega
 unfold LineTo at h;rw [if_neg (by omega),if_pos hq.1,if_pos hq.2.1] at h;obtain ⟨he1,he2⟩:=close_fun hfun h0b hfk hq.2.1;have hR:R=leaveJ K.E (numJ K.E t 0 k sc.chain) sc k:=by rw [h,if_pos hq.2.2]
 have hRl:t.items.length≤R.items.length:=by rw [hR];unfold leaveJ jumpJ numJ incJ emitJ;split <;> (try split) <;> simp
 have hsm:Sm8 t:=⟨by have:=L.d0;omega,by have:=L.d1;omega,by have:=L.rl;have:=hRl;omega⟩;obtain ⟨xe,xc,hxe,HST⟩:=hP.stmt hkl (by omega) (by exact fun _=>by omega);have HST:Hid (∀ W,Below wb.heap.size wb W→Calls Tryz.prog 221 #[.slice pa PX.length pc,.int .i64 (k:Int)] W fun e w'=>e=.returned (.iface 261 (.agg #[]))∧Below W.heap.size W w'):=hid (fun W hb=>by
  have h:=HST W hb;rw [hq.1,he1,he2,show stmtV 7 (.slice xe (exprAt K.E.p k).length xc) (nameAt K.E.p k) (stmtTo K.E.p k) 0=.iface 261 (.agg #[]) from rfl] at h;exact h)
 have HCI:=hid L.at';have HBO:=hid L.body;have HW:=hid L.wb';have HP:=hid hP;have q0:=L.at'.cells.1;have q6:w.cell? ⟨b.bb,6,none⟩=some (.int .i64 (line:Int)):=(blk L.at'.bd.row).1 6 _ rfl;have g6:w.frozen? ⟨b.bb,6,none⟩=false:=(blk L.at'.bd.row).2.1 6;have HC0:Hid (CiAt jT Tryz.prog B cb (w.setCell ⟨b.bb,6,none⟩ (.int .i64 (k:Int))) K t iv X sc b jv k):=hid (L.at'.cellB jT_ok 6 _ rfl rfl rfl rfl rfl rfl);have HS0:Hid (Step cb (ML iv jv b) (ML iv jv b) w (w.setCell ⟨b.bb,6,none⟩ (.int .i64 (k:Int)))):=hid (cellB_step w mem_ML 6 _);obtain ⟨w0,hw0⟩:∃ W,w.setCell ⟨b.bb,6,none⟩ (.int .i64 (k:Int))=W:=⟨_,rfl⟩;have HW0:=hid hw0;rw [hw0] at HC0 HS0;have HB0:Hid (Below wb.heap.size wb w0):=hid (L.wb'.trans ((L.at'.baseL HS0.out).mono hBw));have z0:=HC0.out.cells.1;have z1:w0.cell? ⟨cb,0,none⟩=some (.slice pa PX.length pc):=by rw [← hP.pv];exact (blk HC0.out.cc.row).1 0 _ rfl
 have HRE:=hid hR;have PZ:Hid (∀ W,Below w0.heap.size w0 W→Calls Tryz.prog 226 #[.pointer (some ⟨b.bb,0,none⟩)] W (EmR B cb K (numJ K.E t 0 k sc.chain) iv sc b jv k W)):=hid (fun W hb=>i_pushZero B cb K t iv X sc b jv k W (HC0.out.below hb) (by omega) hsm);have hab:b.ab=none:=by have:=L.body.ou;rw [hq.2.2] at this;simpa using this
 have PV:Hid (ptrV b.ab=.pointer none):=hid (by rw [hab];rfl);have LV:Hid (∀ W iv3 X3,CiAt jT Tryz.prog B cb W K (numJ K.E t 0 k sc.chain) iv3 X3 sc b jv k→Step cb (ML iv jv b) (ML iv3 jv b) w W→Calls Tryz.prog 224 #[.pointer (some ⟨b.bb,0,none⟩)] W (LnR B cb K R iv3 jv sc b k W)):=hid (fun W iv3 X3 hC hS=>by
  rw [hR];refine i_leave B cb K (numJ K.E t 0 k sc.chain) iv3 X3 sc b jv k pa pc PX fa fc wb W hC (by omega) ⟨?_,?_,?_⟩ ?_ hP (L.wb'.trans ((L.at'.baseL hS).mono hBw)) h0b L.body.ou
  ·show _≤t.depth+1;have:=L.d0;omega
  ·show t.depth+1≤_;have:=L.d1;omega
  ·show (t.items++[_]).length≤_;rw [List.length_append];have:=L.rl;have:=hRl;simp;omega
  ·show t.jumps.length≤_;have:=L.jl;have:=L.rl;omega)
 have EQN:∀ W,(binOp .eql 175 (.pointer none) (.pointer none)).run Tryz.prog W=.ok (.bool true) W:=fun W=>(ptr_none W none).2
 have TA0:∀ W,(Instr.typeAssert (.iface 261 (.agg #[])) 243 250 true).run Tryz.prog W=.ok (.tuple #[.agg #[.slice none 0 0,.string ⟨#[]⟩],.bool false]) W:=fun W=>by kernel_rfl
 have TA1:∀ W,(Instr.typeAssert (.iface 261 (.agg #[])) 243 252 true).run Tryz.prog W=.ok (.tuple #[.agg #[.slice none 0 0],.bool false]) W:=fun W=>by kernel_rfl
 have TA2:∀ W,(Instr.typeAssert (.iface 261 (.agg #[])) 243 253 true).run Tryz.prog W=.ok (.tuple #[.agg #[.slice none 0 0],.bool false]) W:=fun W=>by kernel_rfl
 have TA3:∀ W,(Instr.typeAssert (.iface 261 (.agg #[])) 243 255 true).run Tryz.prog W=.ok (.tuple #[.agg #[.slice none 0 0,.int .i64 0],.bool false]) W:=fun W=>by kernel_rfl
 have TA4:∀ W,(Instr.typeAssert (.iface 261 (.agg #[])) 243 259 true).run Tryz.prog W=.ok (.tuple #[.agg #[.int .i64 0],.bool false]) W:=fun W=>by kernel_rfl
 have TA5:∀ W,(Instr.typeAssert (.iface 261 (.agg #[])) 243 261 true).run Tryz.prog W=.ok (.tuple #[.agg #[],.bool true]) W:=fun W=>by kernel_rfl
 have HLU:=hid L.body.ou;have LB0:Hid (∀ w',Below w0.heap.size w0 w'→Step cb (ML iv jv b) (ML iv jv b) w w'):=hid (fun w' hb=>HS0.out.trans (Step.of_below hb));clear hP h60 hlb hinl hsl hcl hfun hfl hf0 hfe hel hloc hfk hke hkl h0b hsm hxe HCI HBO HW HP hR hRl h he1 he2 hq hab L
 go_enter Tryz.func214,Tryz.ntmps214
 go_upto_region 1 with fail;go_wp2_with fail;refine (HST.out _ HB0.out).mono ?_;rintro e w1 ⟨rfl,b1⟩;have HB1:Hid (Below w0.heap.size w0 w1):=hid b1;clear b1 z0 z1;go_wp2_with fail;refine calls_of (by kernel_rfl) ((i_unvisited w1).mono ?_);rintro e w3 ⟨rfl,b2⟩;have HB3:Hid (Below w0.heap.size w0 w3):=hid (HB1.out.trans (b2.mono HB1.out.size));clear b2;have CX:Hid (∀ W iv3 X3,CiAt jT Tryz.prog B cb W K (numJ K.E t 0 k sc.chain) iv3 X3 sc b jv k→W.cell? ⟨b.bb,1,none⟩=some (.pointer none)):=hid (fun W iv3 X3 hC=>by rw [← PV.out];exact (blk hC.bd.row).1 1 _ rfl);have HAL:Hid (Below w0.heap.size w0 (w3.alloc (.cells #[] 261))):=hid (HB3.out.trans ((Below.refl _ _).alloc (Nat.le_refl _) _ |>.mono HB3.out.size));go_wp2_with (first
  | (go_at_call 226;(with_reducible refine (PZ.out _ HAL.out).mono ?_);intro e w5 HJ;have HJ2:=hid HJ;clear HJ;obtain ⟨rfl,iv5,X5,HC5,HS5⟩:=HJ2.out;have c1:=CX.out _ _ _ HC5.out)
  | (go_at_call 224;(with_reducible refine (LV.out _ _ _ HC5.out ((LB0.out _ HAL.out).trans HS5.out.lines)).mono ?_);intro e w6 HV;have HV2:=hid HV;clear HV;obtain ⟨rfl,iv6,jv6,X6,HC6,HS6⟩:=HV2.out))
 go_end0
 exact ⟨rfl,iv6,jv6,X6,HC6,hid (((LB0.out _ HAL.out).trans HS5.out.lines).trans HS6.out)⟩
set_option maxRecDepth 100000 in
set_option maxHeartbeats 4000000 in
theorem i_line7ff (B cb:Nat) (K:KcE) (pa:Option Addr) (pc:Nat) (PX:List LnL) (fa:Option Addr) (fc:Nat) (wb:World) (hP:PgI K pa pc PX fa fc wb) (hBw:wb.heap.size≤B) (n:Nat)
  (scs:List ScL) (sc:ScL) (rest:List ScL) (k:Nat) (t R:CiS) (w:World) (iv:Value) (X:List ItW) (b:BdW) (jv:Value) (line:Nat)
  (hq:lkZ K.E.p (k:Int)=7∧(k:Int)=beZ K.E.p (sc.f:Int)∧sc.outer=false) (h:LineTo K.E n scs sc k t R) (L:LineAt B cb K wb scs sc rest k t R w iv X b jv line) :
  Calls Tryz.prog 214 #[.pointer (some ⟨b.bb,0,none⟩),.int .i64 (k:Int)] w (LnR B cb K R iv jv sc b k w):=by
 have h60:K.E.p.length≤60:=hP.ok.1.1;have hlb:=hP.ok.1.2;have hinl:=hP.inl;have hsl:scs.length≤4:=by have:=L.body.sf.2.1;omega
 have hcl:sc.chain.length≤4:=by have:=L.body.chn;omega
 have hfun:sc.f ∈ funs K.E.p:=by have:=L.body.so.f;rw [L.body.cur] at this;exact this
 obtain ⟨hfl,hf0,hfe,hel,hloc⟩:=fun_parts hP.ok hfun;have hfk:=L.fk;have hke:=L.ke;have hkl:k<K.E.p.length:=by omega
 have h0b:0≤beZ K.E.p (sc.f:Int):=by omega
 unfold LineTo at h;rw [if_neg (by omega),if_pos hq.1,if_pos hq.2.1] at h;obtain ⟨he1,he2⟩:=close_fun hfun h0b hfk hq.2.1;have hR:R=numJ K.E t 0 k sc.chain:=by rw [h,if_neg (by rw [hq.2.2];decide)]
 have hRl:t.items.length≤R.items.length:=by rw [hR];unfold numJ incJ emitJ;simp
 have hsm:Sm8 t:=⟨by have:=L.d0;omega,by have:=L.d1;omega,by have:=L.rl;have:=hRl;omega⟩;obtain ⟨xe,xc,hxe,HST⟩:=hP.stmt hkl (by omega) (by exact fun _=>by omega);have HST:Hid (∀ W,Below wb.heap.size wb W→Calls Tryz.prog 221 #[.slice pa PX.length pc,.int .i64 (k:Int)] W fun e w'=>e=.returned (.iface 261 (.agg #[]))∧Below W.heap.size W w'):=hid (fun W hb=>by
  have h:=HST W hb;rw [hq.1,he1,he2,show stmtV 7 (.slice xe (exprAt K.E.p k).length xc) (nameAt K.E.p k) (stmtTo K.E.p k) 0=.iface 261 (.agg #[]) from rfl] at h;exact h)
 have HCI:=hid L.at';have HBO:=hid L.body;have HW:=hid L.wb';have HP:=hid hP;have q0:=L.at'.cells.1;have q6:w.cell? ⟨b.bb,6,none⟩=some (.int .i64 (line:Int)):=(blk L.at'.bd.row).1 6 _ rfl;have g6:w.frozen? ⟨b.bb,6,none⟩=false:=(blk L.at'.bd.row).2.1 6;have HC0:Hid (CiAt jT Tryz.prog B cb (w.setCell ⟨b.bb,6,none⟩ (.int .i64 (k:Int))) K t iv X sc b jv k):=hid (L.at'.cellB jT_ok 6 _ rfl rfl rfl rfl rfl rfl);have HS0:Hid (Step cb (ML iv jv b) (ML iv jv b) w (w.setCell ⟨b.bb,6,none⟩ (.int .i64 (k:Int)))):=hid (cellB_step w mem_ML 6 _);obtain ⟨w0,hw0⟩:∃ W,w.setCell ⟨b.bb,6,none⟩ (.int .i64 (k:Int))=W:=⟨_,rfl⟩;have HW0:=hid hw0;rw [hw0] at HC0 HS0;have HB0:Hid (Below wb.heap.size wb w0):=hid (L.wb'.trans ((L.at'.baseL HS0.out).mono hBw));have z0:=HC0.out.cells.1;have z1:w0.cell? ⟨cb,0,none⟩=some (.slice pa PX.length pc):=by rw [← hP.pv];exact (blk HC0.out.cc.row).1 0 _ rfl
 have HRE:=hid hR;have PZ:Hid (∀ W,Below w0.heap.size w0 W→Calls Tryz.prog 226 #[.pointer (some ⟨b.bb,0,none⟩)] W (EmR B cb K (numJ K.E t 0 k sc.chain) iv sc b jv k W)):=hid (fun W hb=>i_pushZero B cb K t iv X sc b jv k W (HC0.out.below hb) (by omega) hsm);obtain ⟨a0,hab⟩:∃ a0,b.ab=some a0:=Option.isSome_iff_exists.1 (by have:=L.body.ou;rw [hq.2.2] at this;simpa using this);have PV:Hid (ptrV b.ab=.pointer (some ⟨a0,0,none⟩)):=hid (by rw [hab];rfl);have EQN:∀ W,(binOp .eql 175 (.pointer (some ⟨a0,0,none⟩)) (.pointer none)).run Tryz.prog W=.ok (.bool false) W:=fun W=>(ptr_none W (some a0)).2
 have TA0:∀ W,(Instr.typeAssert (.iface 261 (.agg #[])) 243 250 true).run Tryz.prog W=.ok (.tuple #[.agg #[.slice none 0 0,.string ⟨#[]⟩],.bool false]) W:=fun W=>by kernel_rfl
 have TA1:∀ W,(Instr.typeAssert (.iface 261 (.agg #[])) 243 252 true).run Tryz.prog W=.ok (.tuple #[.agg #[.slice none 0 0],.bool false]) W:=fun W=>by kernel_rfl
 have TA2:∀ W,(Instr.typeAssert (.iface 261 (.agg #[])) 243 253 true).run Tryz.prog W=.ok (.tuple #[.agg #[.slice none 0 0],.bool false]) W:=fun W=>by kernel_rfl
 have TA3:∀ W,(Instr.typeAssert (.iface 261 (.agg #[])) 243 255 true).run Tryz.prog W=.ok (.tuple #[.agg #[.slice none 0 0,.int .i64 0],.bool false]) W:=fun W=>by kernel_rfl
 have TA4:∀ W,(Instr.typeAssert (.iface 261 (.agg #[])) 243 259 true).run Tryz.prog W=.ok (.tuple #[.agg #[.int .i64 0],.bool false]) W:=fun W=>by kernel_rfl
 have TA5:∀ W,(Instr.typeAssert (.iface 261 (.agg #[])) 243 261 true).run Tryz.prog W=.ok (.tuple #[.agg #[],.bool true]) W:=fun W=>by kernel_rfl
 have HLU:=hid L.body.ou;have LB0:Hid (∀ w',Below w0.heap.size w0 w'→Step cb (ML iv jv b) (ML iv jv b) w w'):=hid (fun w' hb=>HS0.out.trans (Step.of_below hb));clear hP h60 hlb hinl hsl hcl hfun hfl hf0 hfe hel hloc hfk hke hkl h0b hsm hxe HCI HBO HW HP hR hRl h he1 he2 hq hab L
 go_enter Tryz.func214,Tryz.ntmps214
 go_upto_region 1 with fail;go_wp2_with fail;refine (HST.out _ HB0.out).mono ?_;rintro e w1 ⟨rfl,b1⟩;have HB1:Hid (Below w0.heap.size w0 w1):=hid b1;clear b1 z0 z1;go_wp2_with fail;refine calls_of (by kernel_rfl) ((i_unvisited w1).mono ?_);rintro e w3 ⟨rfl,b2⟩;have HB3:Hid (Below w0.heap.size w0 w3):=hid (HB1.out.trans (b2.mono HB1.out.size));clear b2;have CX:Hid (∀ W iv3 X3,CiAt jT Tryz.prog B cb W K (numJ K.E t 0 k sc.chain) iv3 X3 sc b jv k→W.cell? ⟨b.bb,1,none⟩=some (.pointer (some ⟨a0,0,none⟩))):=hid (fun W iv3 X3 hC=>by rw [← PV.out];exact (blk hC.bd.row).1 1 _ rfl);have HAL:Hid (Below w0.heap.size w0 (w3.alloc (.cells #[] 261))):=hid (HB3.out.trans ((Below.refl _ _).alloc (Nat.le_refl _) _ |>.mono HB3.out.size));go_wp2_with (go_at_call 226;(with_reducible refine (PZ.out _ HAL.out).mono ?_);intro e w5 HJ;have HJ2:=hid HJ;clear HJ;obtain ⟨rfl,iv5,X5,HC5,HS5⟩:=HJ2.out;have c1:=CX.out _ _ _ HC5.out)
 go_end0
 exact ⟨rfl,iv5,jv,X5,by rw [HRE.out];exact HC5,hid ((LB0.out _ HAL.out).trans HS5.out.lines)⟩
theorem i_line (B cb:Nat) (K:KcE) (pa:Option Addr) (pc:Nat) (PX:List LnL) (fa:Option Addr) (fc:Nat) (wb:World) (hP:PgI K pa pc PX fa fc wb) (hBw:wb.heap.size≤B) (n:Nat) (hE:∀ m,m≤n→IExprOk B cb K wb m):ILineOk B cb K wb n:=by
 intro scs sc rest k t R w iv X b jv line h L;have hfun:sc.f ∈ funs K.E.p:=by have:=L.body.so.f;rw [L.body.cur] at this;exact this
 obtain ⟨hfl,hf0,hfe,hel,hloc⟩:=fun_parts hP.ok hfun;have hfk:=L.fk;have hke:=L.ke;have hkl:k<K.E.p.length:=by omega
 have h0b:0≤beZ K.E.p (sc.f:Int):=by omega
 by_cases he:(k:Int)=beZ K.E.p (sc.f:Int)
 ·have h7:lkZ K.E.p (k:Int)=7:=by rw [he];exact beZ_7 _ _ h0b
  cases ho:sc.outer with
  | true=>exact i_line7ft B cb K pa pc PX fa fc wb hP hBw n scs sc rest k t R w iv X b jv line ⟨h7,he,ho⟩ h L
  | false=>exact i_line7ff B cb K pa pc PX fa fc wb hP hBw n scs sc rest k t R w iv X b jv line ⟨h7,he,ho⟩ h L
 ·have hlt:(k:Int)<beZ K.E.p (sc.f:Int):=by omega
  have hkd:=kinds_in hP.ok hfun hfk hlt hkl;rw [← lkZ_at _ _ hkl] at hkd;have hc:lkZ K.E.p (k:Int)=1∨lkZ K.E.p (k:Int)=2∨(lkZ K.E.p (k:Int)=3∨lkZ K.E.p (k:Int)=5)∨lkZ K.E.p (k:Int)=4∨lkZ K.E.p (k:Int)=6∨lkZ K.E.p (k:Int)=7:=by omega
  rcases hc with hq|hq|hq|hq|hq|hq
  ·exact i_line1 B cb K pa pc PX fa fc wb hP hBw n hE scs sc rest k t R w iv X b jv line hq h L
  ·exact i_line2 B cb K pa pc PX fa fc wb hP hBw n hE scs sc rest k t R w iv X b jv line hq h L
  ·exact i_line35 B cb K pa pc PX fa fc wb hP hBw n hE scs sc rest k t R w iv X b jv line hq h L
  ·exact i_line4 B cb K pa pc PX fa fc wb hP hBw n scs sc rest k t R w iv X b jv line hq h L
  ·exact i_line6 B cb K pa pc PX fa fc wb hP hBw n hE scs sc rest k t R w iv X b jv line hq h L
  ·obtain ⟨_,_,h35⟩:=close_in hP.ok hfun h0b hfk hlt hq
   rcases h35 with h3|h5
   ·exact i_line7i B cb K pa pc PX fa fc wb hP hBw n scs sc rest k t R w iv X b jv line ⟨hq,hlt,h3⟩ h L
   ·exact i_line7w B cb K pa pc PX fa fc wb hP hBw n scs sc rest k t R w iv X b jv line ⟨hq,h5⟩ h L
end Go.Proofs.YtcflojdkaddemaaGreatDoor
