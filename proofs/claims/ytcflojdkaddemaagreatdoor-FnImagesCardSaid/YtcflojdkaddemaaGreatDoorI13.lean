/- Parts of the proof. -/
import Derived.Test.YtcflojdkaddemaaGreatDoorI12
namespace Go.Proofs.YtcflojdkaddemaaGreatDoor
open Go.RowKit Go.Lib Go.Maps
structure PgI (K:KcE) (pa:Option Addr) (pc:Nat) (PX:List LnL) (fa:Option Addr) (fc:Nat) (wb:World):Prop where
 pv:K.pv=.slice pa PX.length pc
 read:ReadL 9 147 wb pa PX
 prog:plL PX=K.E.p
 ok:OkI K.E.p
 cap:PX.length≤pc
 fv:K.fv=.slice fa (funs K.E.p).length fc
 frow:wb.ownsRow 0 3 1 (.slice fa (funs K.E.p).length fc) (funs K.E.p).length (intV (natI (funs K.E.p)))
 inl:K.E.inl≤3
 args:K.E.args≤4
 w1:0≤K.E.words
 w2:K.E.words≤1000000
theorem PgI.len {K:KcE} {pa:Option Addr} {pc:Nat} {PX:List LnL} {fa:Option Addr} {fc:Nat} {wb:World} (h:PgI K pa pc PX fa fc wb):PX.length≤60:=by
 have:=h.ok.1.1
 rw [← h.prog,plL_length] at this;exact this
section
variable {T:JT} {P:Program} {B cb:Nat} {w w':World} {K:KcE} {t:CiS} {iv jv:Value} {X:List ItW} {sc:ScL} {b:BdW} {line:Nat} {M':List Value}
theorem CiAt.baseE (h:CiAt T P B cb w K t iv X sc b jv line) (hs:Step cb (ME iv b.bb) M' w w'):Below B w w':=hs.base (Nat.le_of_lt (Nat.lt_of_le_of_lt h.cc.lo h.cc.lt)) h.cc.lo (fun v hv g hg=>by
 unfold ME at hv;simp only [List.mem_cons,List.not_mem_nil,or_false] at hv
 rcases hv with rfl|rfl
 ·exact (h.cc.its.lt g hg).1
 ·have:=h.bd.lt
  have:=h.bd.lo
  have e:b.bb=g:=Option.some.inj hg;omega)
theorem CiAt.baseL (h:CiAt T P B cb w K t iv X sc b jv line) (hs:Step cb (ML iv jv b) M' w w'):Below B w w':=hs.base (Nat.le_of_lt (Nat.lt_of_le_of_lt h.cc.lo h.cc.lt)) h.cc.lo (fun v hv g hg=>by
 have:=h.bd.lt
 have:=h.bd.lf
 have:=h.bd.lo
 unfold ML at hv;simp only [List.mem_cons,List.not_mem_nil,or_false] at hv
 rcases hv with rfl|rfl|rfl|rfl
 ·exact (h.cc.its.lt g hg).1
 ·have e:b.bb=g:=Option.some.inj hg
  omega
 ·exact (h.bd.jr.lt g hg).1
 ·have e:b.fb=g:=Option.some.inj hg
  omega)
end
theorem EmR.lines {B cb:Nat} {K:KcE} {t:CiS} {iv jv:Value} {sc:ScL} {b:BdW} {line:Nat} {w w':World} {e:Ending} (h:EmR B cb K t iv sc b jv line w e w'):LnR B cb K t iv jv sc b line w e w':=by
 obtain ⟨h1,iv',X',hC,hS⟩:=h;exact ⟨h1,iv',jv,X',hC,hid hS.out.lines⟩
theorem ptr_none (w:World) (a:Option Nat):(binOp .neq 175 (ptrV a) (.pointer none)).run Tryz.prog w=.ok (.bool a.isSome) w∧(binOp .eql 175 (ptrV a) (.pointer none)).run Tryz.prog w=.ok (.bool a.isNone) w:=by
 cases a with
 | none=>exact ⟨by kernel_rfl,by kernel_rfl⟩
 | some a=>exact ⟨by kernel_rfl,by kernel_rfl⟩
set_option maxRecDepth 100000 in
set_option maxHeartbeats 4000000 in
theorem i_leave (B cb:Nat) (K:KcE) (t:CiS) (iv:Value) (X:List ItW) (sc:ScL) (b:BdW) (jv:Value) (line:Nat) (pa:Option Addr) (pc:Nat) (PX:List LnL) (fa:Option Addr) (fc:Nat) (wb w:World)
  (h:CiAt jT Tryz.prog B cb w K t iv X sc b jv line) (hc:sc.chain.length≤1048576) (hs:Sm8 t) (hj:t.jumps.length≤4000000) (hP:PgI K pa pc PX fa fc wb) (hW:Below wb.heap.size wb w) (hb0:0≤beZ K.E.p (sc.f:Int)) (hab:b.ab.isSome=!sc.outer) :
  Calls Tryz.prog 224 #[.pointer (some ⟨b.bb,0,none⟩)] w (LnR B cb K (leaveJ K.E t sc line) iv jv sc b line w):=by
 have HH:=hid h;have hlen:=hP.len;have hbz:=beZ_lt K.E.p (sc.f:Int);have hplen:K.E.p.length≤60:=hP.ok.1.1;obtain ⟨e0,e3,e7,_⟩:=h.cells;have e1:w.cell? ⟨b.bb,1,none⟩=some (ptrV b.ab):=(blk h.bd.row).1 1 _ rfl;have e4:w.cell? ⟨cb,4,none⟩=some (.int .i64 (K.E.args:Int)):=(blk h.cc.row).1 4 _ rfl;have e5:w.cell? ⟨cb,5,none⟩=some (.int .i64 K.E.words):=(blk h.cc.row).1 5 _ rfl;have hw1:=hP.w1;have hw2:=hP.w2;have ha:=hP.args;obtain ⟨z,hz⟩:∃ z:Nat,beZ K.E.p (sc.f:Int)=(z:Int):=⟨_,(Int.toNat_of_nonneg hb0).symm⟩;have EN:Hid (∀ W,Below w.heap.size w W→Calls Tryz.prog 163 #[.slice pa PX.length pc,.int .i64 (sc.f:Int)] W fun e w'=>e=.returned (.int .i64 (z:Int))∧Below W.heap.size W w'):=hid (fun W hb=>by
  have h:=i_endOf pa pc PX (sc.f:Int) W (by omega) ((hP.read.below hW).below hb);rw [hP.prog,hz] at h;exact h)
 have KS:Hid (∀ W t' iv' X' jv',CiAt jT Tryz.prog B cb W K t' iv' X' sc b jv' line→W.cell? ⟨b.bb,0,none⟩=some (.pointer (some ⟨cb,0,none⟩))∧W.cell? ⟨cb,0,none⟩=some (.slice pa PX.length pc)∧W.cell? ⟨b.bb,2,none⟩=some (.int .i64 (sc.f:Int))∧W.cell? ⟨cb,4,none⟩=some (.int .i64 (K.E.args:Int))∧W.cell? ⟨cb,5,none⟩=some (.int .i64 K.E.words)):=hid (fun W t' iv' X' jv' hW'=>⟨hW'.cells.1,by rw [← hP.pv];exact (blk hW'.cc.row).1 0 _ rfl,(blk hW'.bd.row).1 2 _ rfl,(blk hW'.cc.row).1 4 _ rfl,(blk hW'.cc.row).1 5 _ rfl⟩);have JP:Hid (∀ W,Below w.heap.size w W→Calls Tryz.prog 225 #[.pointer (some ⟨b.bb,0,none⟩),.int .i64 10,.int .i64 ((z:Int)+1)] W (LnR B cb K (jumpJ K.E t 10 (z+1) line sc.chain) iv jv sc b line W)):=hid (fun W hb=>by
  have h:=i_jump B cb K t iv X sc b jv line 10 (z+1) line W (HH.out.below hb) hc hs hj rfl;rw [show ((z+1:Nat):Int)=(z:Int)+1 from by omega] at h;exact h)
 have EM:Hid (∀ W c a,Below w.heap.size w W→Calls Tryz.prog 185 #[.pointer (some ⟨b.bb,0,none⟩),.int .i64 c,.int .i64 a] W (EmR B cb K (emitJ K.E t c a line sc.chain) iv sc b jv line W)):=hid (fun W c a hb=>i_emit B cb K t iv X sc b jv line c a W (HH.out.below hb) hc (by rw [HH.out.len];have:=hs.n;omega));have KB:Hid (∀ W,Below w.heap.size w W→W.cell? ⟨b.bb,0,none⟩=some (.pointer (some ⟨cb,0,none⟩))∧W.cell? ⟨cb,0,none⟩=some (.slice pa PX.length pc)∧W.cell? ⟨b.bb,2,none⟩=some (.int .i64 (sc.f:Int))):=hid (fun W hb=>⟨(KS.out _ _ _ _ _ (HH.out.below hb)).1,(KS.out _ _ _ _ _ (HH.out.below hb)).2.1,(KS.out _ _ _ _ _ (HH.out.below hb)).2.2.1⟩);have KZ:Hid (∀ W t' iv' X' jv',CiAt jT Tryz.prog B cb W K t' iv' X' sc b jv' line→W.cell? ⟨b.bb,0,none⟩=some (.pointer (some ⟨cb,0,none⟩))∧W.cell? ⟨cb,0,none⟩=some (.slice pa PX.length pc)∧W.cell? ⟨b.bb,2,none⟩=some (.int .i64 (sc.f:Int))):=hid (fun W t' iv' X' jv' hC=>⟨(KS.out _ _ _ _ _ hC).1,(KS.out _ _ _ _ _ hC).2.1,(KS.out _ _ _ _ _ hC).2.2.1⟩);have B0:Hid (∀ q,Below w.heap.size w (w.drewN q)):=hid (fun q=>below_drewN (Below.refl _ _) q);have KU:Hid (∀ W t' iv' X' jv',CiAt jT Tryz.prog B cb W K t' iv' X' sc b jv' line→W.cell? ⟨b.bb,0,none⟩=some (.pointer (some ⟨cb,0,none⟩))∧W.cell? ⟨cb,4,none⟩=some (.int .i64 (K.E.args:Int))∧W.cell? ⟨cb,5,none⟩=some (.int .i64 K.E.words)):=hid (fun W t' iv' X' jv' hC=>⟨(KS.out _ _ _ _ _ hC).1,(KS.out _ _ _ _ _ hC).2.2.2.1,(KS.out _ _ _ _ _ hC).2.2.2.2⟩);have B1:Hid (Below w.heap.size w w.drew):=hid (Below.refl _ _).drew;have PN:=fun W=>(ptr_none W b.ab).1
 have u1:IntKind.i64.wrap ((z:Int)+1)=(z:Int)+1:=IntWalk.i64_in _ (by omega);have u2:IntKind.i64.wrap (16*K.E.words)=16*K.E.words:=IntWalk.i64_in _ (by omega);have u3:IntKind.i64.wrap ((K.E.args:Int)+16*K.E.words)=(K.E.args:Int)+16*K.E.words:=IntWalk.i64_in _ (by omega);obtain ⟨p0,p1,p2,p4,p5⟩:=KS.out _ _ _ _ _ h;rw [hab] at PN;obtain ⟨o,ho⟩:∃ o,sc.outer=o:=⟨_,rfl⟩;obtain ⟨fr,hfr⟩:∃ fr,K.E.framed=fr:=⟨_,rfl⟩;obtain ⟨R,hR⟩:∃ R,leaveJ K.E t sc line=R:=⟨_,rfl⟩;rw [hR];unfold leaveJ at hR;rw [hz,Int.toNat_natCast] at hR;rw [ho] at PN;rw [hfr] at e3;have HR:Hid ((if o=false then jumpJ K.E t 10 (z+1) line sc.chain else if fr=true then emitJ K.E t 14 (K.E.args:Int) line sc.chain else emitJ K.E t 16 ((K.E.args:Int)+16*K.E.words) line sc.chain)=R):=hid (by rw [← ho,← hfr];exact hR);have LB:Hid (∀ W W' t',Below w.heap.size w W→LnR B cb K t' iv jv sc b line W (.returned (.tuple #[])) W'→LnR B cb K t' iv jv sc b line w (.returned (.tuple #[])) W'):=hid (fun W W' t' hb h=>by
  obtain ⟨h1,iv',jv',X',hC,hS⟩:=h;exact ⟨h1,iv',jv',X',hC,hid ((Step.of_below hb).trans hS.out)⟩)
 obtain ⟨bb,hbb⟩:∃ bb,b.bb=bb:=⟨_,rfl⟩;rw [hbb] at e0 e1 p0 p2 KS KB KZ KU JP EM;rw [hbb];have HAB:Hid (b.ab.isSome=!o):=hid (by rw [← ho];exact hab);clear h hc hs hj hP hW hb0 hab hR ho hfr hz hlen hbz hplen
 go_enter Tryz.func224,Tryz.ntmps224
 cases o
 ·obtain ⟨a0,ha0⟩:=Option.isSome_iff_exists.1 HAB.out
  have e1':w.cell? ⟨bb,1,none⟩=some (.pointer (some ⟨a0,0,none⟩)):=by rw [ha0] at e1;exact e1
  have PN':∀ W,(binOp .neq 175 (.pointer (some ⟨a0,0,none⟩)) (.pointer none)).run Tryz.prog W=.ok (.bool true) W:=fun W=>by have h:=PN W;rw [ha0] at h;exact h
  clear e1 PN ha0;have HQ:Hid (jumpJ K.E t 10 (z+1) line sc.chain=R):=hid (by have h:=HR.out;simpa using h);go_upto_region 2 with fail
  go_region_held3 (fun w'=>w'.cell? ⟨bb,0,none⟩=some (.pointer (some ⟨cb,0,none⟩))∧w'.cell? ⟨cb,0,none⟩=some (.slice pa PX.length pc)∧w'.cell? ⟨bb,2,none⟩=some (.int .i64 (sc.f:Int))) (first|exact ⟨p0,p1,p2⟩|with_reducible exact KX.out|with_reducible exact KY.out) (first
   | (go_at_call 163;(with_reducible refine (EN.out _ B1.out).mono ?_);rintro e w1 ⟨rfl,b1⟩;have HB1:Hid (Below w.heap.size w w1):=hid (B1.out.trans b1);clear b1;have KX:=hid (KB.out _ HB1.out))
   | (go_at_call 225;(with_reducible refine (JP.out _ HB1.out).mono ?_);intro e w2 HJ;have HJ2:=hid HJ;clear HJ;obtain ⟨rfl,iv2,jv2,X2,HC2,HS2⟩:=HJ2.out;have KY:=hid (KZ.out _ _ _ _ _ HC2.out)))
  go_wp2
  go_end0
  rw [← HQ.out];exact LB.out _ _ _ HB1.out ⟨rfl,iv2,jv2,X2,HC2,HS2⟩
 ·have ha0:b.ab=none:=by have h:=HAB.out;simpa using h
  have e1':w.cell? ⟨bb,1,none⟩=some (.pointer none):=by rw [ha0] at e1;exact e1
  have PN':∀ W,(binOp .neq 175 (.pointer none) (.pointer none)).run Tryz.prog W=.ok (.bool false) W:=fun W=>by have h:=PN W;rw [ha0] at h;exact h
  clear e1 PN ha0
  cases fr
  ·have HQ:Hid (emitJ K.E t 16 ((K.E.args:Int)+16*K.E.words) line sc.chain=R):=hid (by have h:=HR.out;simpa using h)
   go_upto_region 0 with fail
   go_region_held3 (fun w'=>w'.cell? ⟨bb,0,none⟩=some (.pointer (some ⟨cb,0,none⟩))∧w'.cell? ⟨cb,4,none⟩=some (.int .i64 (K.E.args:Int))∧w'.cell? ⟨cb,5,none⟩=some (.int .i64 K.E.words)) (first|exact ⟨p0,p4,p5⟩|with_reducible exact KY.out) (first
    | (go_at_call 185;(with_reducible refine (EM.out _ _ _ B1.out).mono ?_);intro e w2 HJ;have HJ2:=hid HJ;clear HJ;obtain ⟨rfl,iv2,X2,HC2,HS2⟩:=HJ2.out;have KY:=hid (KU.out _ _ _ _ _ HC2.out)))
   go_wp2
   go_end0
   rw [← HQ.out];exact LB.out _ _ _ B1.out HJ2.out.lines
  ·have HQ:Hid (emitJ K.E t 14 (K.E.args:Int) line sc.chain=R):=hid (by have h:=HR.out;simpa using h)
   go_wp2_with (go_at_call 185;(with_reducible refine (EM.out _ _ _ (Below.refl _ _)).mono ?_);intro e w2 HJ;have HJ2:=hid HJ;clear HJ;obtain ⟨rfl,iv2,X2,HC2,HS2⟩:=HJ2.out)
   go_end0
   rw [← HQ.out];exact HJ2.out.lines
end Go.Proofs.YtcflojdkaddemaaGreatDoor

namespace Go.Proofs.YtcflojdkaddemaaGreatDoor
open Go.RowKit Go.Lib Go.Maps
def Arnd (T:JT) (w:World):Option Nat→List ScL→Prop
 | none,[]=>True
 | some a,sc :: r=>∃ (cs:Array Value) (ab:Option Nat),w.heap[a]?=some (.cells cs T.b (0,0))∧cs[1]?=some (ptrV ab)∧cs[2]?=some (.int .i64 (sc.f:Int))∧(∀ a',ab=some a'→a'<a)∧Arnd T w ab r
 | none,_ :: _=>False
 | some _,[]=>False
theorem Arnd.keep {T:JT} {w w':World}:∀ {r:List ScL} {ab:Option Nat} (n:Nat),Arnd T w ab r→(∀ a,ab=some a→a<n)→(∀ k cs fr,k<n→w.heap[k]?=some (.cells cs T.b fr)→w'.heap[k]?=w.heap[k]?)→Arnd T w' ab r
 | [],none,_,_,_,_=>trivial
 | [],some _,_,h,_,_=>h.elim
 | _ :: _,none,_,h,_,_=>h.elim
 | sc :: r,some a,n,⟨cs,ab,h1,h2,h3,h4,h5⟩,hn,hk=>⟨cs,ab,(hk a cs (0,0) (hn a rfl) h1).trans h1,h2,h3,h4,Arnd.keep a h5 h4 fun k cs fr hka hkk=>hk k cs fr (Nat.lt_trans hka (hn a rfl)) hkk⟩
def blkV:Value→Nat
 | .pointer (some a)=>a.block+1
 | _=>0
set_option maxRecDepth 100000 in
set_option maxHeartbeats 4000000 in
theorem i_replaces (B cb:Nat) (K:KcE) (t:CiS) (iv:Value) (X:List ItW) (sc:ScL) (rest scs:List ScL) (b:BdW) (jv:Value) (line g:Nat) (pa:Option Addr) (pc:Nat) (PX:List LnL) (fa:Option Addr) (fc:Nat) (wb w:World)
  (h:CiAt jT Tryz.prog B cb w K t iv X sc b jv line) (hscs:scs=sc :: rest) (hlen:sc.chain.length+1=scs.length) (hab:Arnd jT w b.ab rest) (halt:∀ a,b.ab=some a→a<b.bb) (hl4:scs.length≤4) (hs:Sm8 t) (hP:PgI K pa pc PX fa fc wb) (hW:Below wb.heap.size wb w) (hg:g≤1000) :
  Calls Tryz.prog 232 #[.pointer (some ⟨b.bb,0,none⟩),.int .i64 (g:Int)] w fun e w'=>e=.returned (.bool (replJ K.E scs t.items.length g))∧Below w.heap.size w w':=by
 have HH:=hid h;have hpl:=hP.len;have hplen:K.E.p.length≤60:=hP.ok.1.1;have hil:=hP.inl;obtain ⟨va,vc,rfl⟩:=own_sh h.cc.its;obtain ⟨ha,hcq,hchv⟩:=own_sh h.bd.ch;have hcl:sc.chain.length=scs.length - 1:=by omega
 rw [hcl] at hchv;have hxl:X.length=t.items.length:=h.len;have hX4:X.length≤4000000:=by have:=hs.n;omega
 have HAR:Hid (Arnd jT w (some b.bb) scs):=hid (by rw [hscs];exact ⟨_,b.ab,h.bd.row,rfl,rfl,halt,hab⟩);have HS4:Hid (∀ W,Below w.heap.size w W→W.cell? ⟨b.bb,3,none⟩=some (.slice ha (scs.length - 1) hcq)∧W.cell? ⟨b.bb,0,none⟩=some (.pointer (some ⟨cb,0,none⟩))∧W.cell? ⟨cb,2,none⟩=some (.int .i64 (K.E.inl:Int))∧W.cell? ⟨cb,0,none⟩=some (.slice pa PX.length pc)∧W.cell? ⟨cb,8,none⟩=some (.slice va X.length vc)):=hid (fun W hb=>by
  have h1:=HH.out.below hb;exact ⟨by rw [← hchv];exact (blk h1.bd.row).1 3 _ rfl,h1.cells.1,(blk h1.cc.row).1 2 _ rfl,by rw [← hP.pv];exact (blk h1.cc.row).1 0 _ rfl,(blk h1.cc.row).1 8 _ rfl⟩)
 obtain ⟨z,hz⟩:∃ z,beZ K.E.p (g:Int)=z:=⟨_,rfl⟩;have hbz:=beZ_lt K.E.p (g:Int);rw [hz] at hbz;have hz1:=hbz.1;have hz2:z≤60:=by omega
 have EN:Hid (∀ W,Below w.heap.size w W→Calls Tryz.prog 163 #[.slice pa PX.length pc,.int .i64 (g:Int)] W fun e w'=>e=.returned (.int .i64 z)∧Below W.heap.size W w'):=hid (fun W hb=>by
  have h:=i_endOf pa pc PX (g:Int) W (by omega) ((hP.read.below hW).below hb);rw [hP.prog,hz] at h;exact h)
 obtain ⟨bb,hbb⟩:∃ bb,b.bb=bb:=⟨_,rfl⟩;rw [hbb] at HAR HS4 ⊢;have PN:=fun W a=>(ptr_none W a).1
 have u1:IntKind.i64.wrap (z - (g:Int))=z - (g:Int):=IntWalk.i64_in _ (by omega);obtain ⟨R,hR⟩:∃ R,replJ K.E scs t.items.length g=R:=⟨_,rfl⟩;rw [hR];unfold replJ at hR;rw [hz,← hxl] at hR;have HR:=hid hR;have S0:=hid (HS4.out w (Below.refl _ _));have B0:Hid (∀ q,Below w.heap.size w (w.drewN q)):=hid (fun q=>below_drewN (Below.refl _ _) q);have B1:Hid (Below w.heap.size w w.drew):=hid (Below.refl _ _).drew;clear h hscs hlen hab halt hs hP hW hchv hxl hcl hz hbz hR hbb hplen hpl
 go_enter Tryz.func232,Tryz.ntmps232
 go_wp2_with fail
 go_loopw [5] (fun p wr=>∃ (ab:Option Nat) (r:List ScL),p=ptrV ab∧wr=w∧Hid (Arnd jT w ab r)∧Hid ((scs.all fun sc=>decide (sc.f≠g))=r.all fun sc=>decide (sc.f≠g))) (fun p _=>blkV p)
 case atStart=>exact ⟨some bb,scs,rfl,rfl,HAR,hid rfl⟩
 case round =>
  obtain ⟨ab,r,rfl,rfl,HA,HL⟩:=hrel
  cases ab with
  | some a =>
   cases r with
   | nil=>exact HA.out.elim
   | cons s r =>
    obtain ⟨cs,ab',h1,h2,h3,h4,h5⟩:=HA.out;have c1:wr.cell? ⟨a,1,none⟩=some (ptrV ab'):=(blk h1).1 1 _ h2;have c2:wr.cell? ⟨a,2,none⟩=some (.int .i64 (s.f:Int)):=(blk h1).1 2 _ h3;have PN1:∀ W,(binOp .neq 175 (.pointer (some ⟨a,0,none⟩)) (.pointer none)).run Tryz.prog W=.ok (.bool true) W:=fun W=>PN W (some a)
    have HA5:=hid h5;have HA4:=hid h4;clear h1 h2 h3 h4 h5 HA
    by_cases hsg:s.f=g
    ·have q1:((s.f:Int) == (g:Int))=true:=by rw [hsg];simp
     have HF:Hid (false=R):=hid (by
      have h:=HR.out;rw [HL.out,List.all_cons,decide_eq_false (show ¬ (s.f≠g) from fun e=>e hsg)] at h
      simpa using h)
     clear hsg;unfold ptrV;go_wp2_with fail;go_ret;exact ⟨by rw [← HF.out];rfl,Below.refl _ _⟩
    ·have q1:((s.f:Int) == (g:Int))=false:=by simpa using fun e=>hsg (by omega)
     have HL2:Hid ((scs.all fun sc=>decide (sc.f≠g))=r.all fun sc=>decide (sc.f≠g)):=hid (by
      rw [HL.out,List.all_cons,decide_eq_true hsg,Bool.true_and])
     clear hsg;unfold ptrV
     cases ab' with
     | none =>
      have c1':wr.cell? ⟨a,1,none⟩=some (.pointer none):=c1;clear c1;go_wp2_with fail;go_roundw
      case rel=>exact ⟨none,r,(by first|trivial|rfl),(by first|trivial|rfl),HA5,HL2⟩
      case measure=>simp [blkV]
     | some a' =>
      have c1':wr.cell? ⟨a,1,none⟩=some (.pointer (some ⟨a',0,none⟩)):=c1;have hlt:=HA4.out a' rfl;clear c1;go_wp2_with fail;go_roundw
      case rel=>exact ⟨some a',r,(by first|trivial|rfl),(by first|trivial|rfl),HA5,HL2⟩
      case measure=>simp [blkV];omega
  | none =>
   cases r with
   | cons s r=>exact HA.out.elim
   | nil =>
    have PN1:∀ W,(binOp .neq 175 (.pointer none) (.pointer none)).run Tryz.prog W=.ok (.bool false) W:=fun W=>PN W none
    have HR1:Hid ((!(decide (K.E.inl≤scs.length - 1) || (decide (9<z - (g:Int)) || decide (200≤X.length))))=R):=hid (by
     have h:=HR.out;rw [HL.out] at h
     simpa using h)
    clear HA HL HR PN;unfold ptrV;go_upto_region 6 with fail;obtain ⟨s3,s0,sk2,sk0,sk8⟩:=S0.out
    by_cases c1:K.E.inl≤scs.length - 1
    ·have q1:decide (scs.length - 1<K.E.inl)=false:=by rw [decide_eq_false_iff_not];omega
     have q1':decide (((scs.length - 1:Nat):Int)<(K.E.inl:Int))=false:=by rw [decide_eq_false_iff_not];omega
     have HQ:Hid (false=R):=hid (by have h:=HR1.out;rw [decide_eq_true c1] at h;simpa using h);clear c1;go_quiet (fail);go_wp2;go_ret;exact ⟨by rw [← HQ.out];rfl,B0.out _⟩
    ·have q1:decide (scs.length - 1<K.E.inl)=true:=by rw [decide_eq_true_eq];omega
     have q1':decide (((scs.length - 1:Nat):Int)<(K.E.inl:Int))=true:=by rw [decide_eq_true_eq];omega
     by_cases c2:9<z - (g:Int)
     ·have q2:decide (z - (g:Int)≤9)=false:=by rw [decide_eq_false_iff_not];omega
      have HQ:Hid (false=R):=hid (by have h:=HR1.out;rw [decide_eq_true c2] at h;simpa using h);clear c1 c2;refine E_start (S:=(fun w'=>w'.cell? ⟨bb,3,none⟩=some (.slice ha (scs.length - 1) hcq)∧w'.cell? ⟨bb,0,none⟩=some (.pointer (some ⟨cb,0,none⟩))∧w'.cell? ⟨cb,2,none⟩=some (.int .i64 (K.E.inl:Int))∧w'.cell? ⟨cb,0,none⟩=some (.slice pa PX.length pc)∧w'.cell? ⟨cb,8,none⟩=some (.slice va X.length vc))) 38 (by kernel_rfl) (S0.out) (fun hHeld=>?_);refine E_tk 0 ?_
      try simp only [Act.put,eS1,eS2,eS3,eA1,eA2,eA3]
      refine E_tk 1 ?_
      try simp only [Act.put,eS1,eS2,eS3,eA1,eA2,eA3]
      refine E_tk 2 ?_
      try simp only [Act.put,eS1,eS2,eS3,eA1,eA2,eA3]
      refine E_tk 3 ?_
      try simp only [Act.put,eS1,eS2,eS3,eA1,eA2,eA3]
      refine E_tk 4 ?_
      try simp only [Act.put,eS1,eS2,eS3,eA1,eA2,eA3]
      refine E_tk 5 ?_
      try simp only [Act.put,eS1,eS2,eS3,eA1,eA2,eA3]
      refine E_tk 6 ?_
      try simp only [Act.put,eS1,eS2,eS3,eA1,eA2,eA3]
      refine E_tk 7 ?_
      try simp only [Act.put,eS1,eS2,eS3,eA1,eA2,eA3]
      refine E_tk 8 ?_
      try simp only [Act.put,eS1,eS2,eS3,eA1,eA2,eA3]
      refine E_tk 9 ?_
      try simp only [Act.put,eS1,eS2,eS3,eA1,eA2,eA3]
      refine E_tk 10 ?_
      try simp only [Act.put,eS1,eS2,eS3,eA1,eA2,eA3]
      refine E_tk 11 ?_
      try simp only [Act.put,eS1,eS2,eS3,eA1,eA2,eA3]
      refine E_tk 12 ?_
      try simp only [Act.put,eS1,eS2,eS3,eA1,eA2,eA3]
      refine E_tk 13 ?_
      try simp only [Act.put,eS1,eS2,eS3,eA1,eA2,eA3]
      refine E_tk 14 ?_
      try simp only [Act.put,eS1,eS2,eS3,eA1,eA2,eA3]
      refine E_tk 15 ?_
      try simp only [Act.put,eS1,eS2,eS3,eA1,eA2,eA3]
      refine E_tk 16 ?_
      try simp only [Act.put,eS1,eS2,eS3,eA1,eA2,eA3]
      refine E_tk 17 ?_
      try simp only [Act.put,eS1,eS2,eS3,eA1,eA2,eA3]
      refine E_tk 18 ?_
      try simp only [Act.put,eS1,eS2,eS3,eA1,eA2,eA3]
      refine E_tk 19 ?_
      try simp only [Act.put,eS1,eS2,eS3,eA1,eA2,eA3]
      refine E_tk 20 ?_
      try simp only [Act.put,eS1,eS2,eS3,eA1,eA2,eA3]
      refine E_tk 21 ?_
      try simp only [Act.put,eS1,eS2,eS3,eA1,eA2,eA3]
      refine E_tk 23 ?_
      try simp only [Act.put,eS1,eS2,eS3,eA1,eA2,eA3]
      refine E_ready (rs:=[22]) (by kernel_rfl) (by decide) ?_;refine AllE.cons (o:=_) rfl (fun K hK=>?_) AllE.nil
      try simp only [eA1,eA2,eA3]
      go_simp
      refine (EN.out _ B1.out).mono ?_;rintro e w1 ⟨rfl,b1⟩;go_wp2_with fail;have HB1:Hid (Below wr.heap.size wr w1):=hid (B1.out.trans b1);clear b1;have S1:=hid (HS4.out _ HB1.out);refine hK.out _ _ S1.out (fun hHeld=>?_);clear hK K
      try simp only [Act.put,eS1,eS2,eS3,eA1,eA2,eA3]
      refine E_tk 24 ?_
      try simp only [Act.put,eS1,eS2,eS3,eA1,eA2,eA3]
      refine E_tk 25 ?_
      try simp only [Act.put,eS1,eS2,eS3,eA1,eA2,eA3]
      refine E_tk 26 ?_
      try simp only [Act.put,eS1,eS2,eS3,eA1,eA2,eA3]
      refine E_tk 27 ?_
      try simp only [Act.put,eS1,eS2,eS3,eA1,eA2,eA3]
      refine E_tu 28 ?_
      try simp only [Act.put,eS1,eS2,eS3,eA1,eA2,eA3]
      refine E_tu 29 ?_
      try simp only [Act.put,eS1,eS2,eS3,eA1,eA2,eA3]
      refine E_tu 30 ?_
      try simp only [Act.put,eS1,eS2,eS3,eA1,eA2,eA3]
      refine E_tu 31 ?_
      try simp only [Act.put,eS1,eS2,eS3,eA1,eA2,eA3]
      refine E_tu 32 ?_
      try simp only [Act.put,eS1,eS2,eS3,eA1,eA2,eA3]
      refine E_tu 33 ?_
      try simp only [Act.put,eS1,eS2,eS3,eA1,eA2,eA3]
      refine E_tu 34 ?_
      try simp only [Act.put,eS1,eS2,eS3,eA1,eA2,eA3]
      refine E_tu 35 ?_
      try simp only [Act.put,eS1,eS2,eS3,eA1,eA2,eA3]
      refine E_tu 36 ?_
      try simp only [Act.put,eS1,eS2,eS3,eA1,eA2,eA3]
      refine E_tk 37 ?_
      try simp only [Act.put,eS1,eS2,eS3,eA1,eA2,eA3]
      refine E_last (o:=_) (by kernel_rfl) rfl (by kernel_rfl) (fun K hK=>?_)
      try simp only [eA1,eA2,eA3]
      go_simp
      refine hK.out _ _ ?_;clear hK K;go_wp2;go_ret;exact ⟨by rw [← HQ.out];rfl,HB1.out⟩
     ·have q2:decide (z - (g:Int)≤9)=true:=by rw [decide_eq_true_eq];omega
      have HQ:Hid (decide ((X.length:Int)<200)=R):=hid (by
       have h:=HR1.out;rw [decide_eq_false c1,decide_eq_false c2] at h;rw [← h]
       by_cases hx:X.length<200
       ·rw [decide_eq_true (show (X.length:Int)<200 from by omega),decide_eq_false (show ¬ 200≤X.length from by omega)];rfl
       ·rw [decide_eq_false (show ¬ (X.length:Int)<200 from by omega),decide_eq_true (show 200≤X.length from by omega)];rfl)
      clear c1 c2;refine E_start (S:=(fun w'=>w'.cell? ⟨bb,3,none⟩=some (.slice ha (scs.length - 1) hcq)∧w'.cell? ⟨bb,0,none⟩=some (.pointer (some ⟨cb,0,none⟩))∧w'.cell? ⟨cb,2,none⟩=some (.int .i64 (K.E.inl:Int))∧w'.cell? ⟨cb,0,none⟩=some (.slice pa PX.length pc)∧w'.cell? ⟨cb,8,none⟩=some (.slice va X.length vc))) 38 (by kernel_rfl) (S0.out) (fun hHeld=>?_);refine E_tk 0 ?_
      try simp only [Act.put,eS1,eS2,eS3,eA1,eA2,eA3]
      refine E_tk 1 ?_
      try simp only [Act.put,eS1,eS2,eS3,eA1,eA2,eA3]
      refine E_tk 2 ?_
      try simp only [Act.put,eS1,eS2,eS3,eA1,eA2,eA3]
      refine E_tk 3 ?_
      try simp only [Act.put,eS1,eS2,eS3,eA1,eA2,eA3]
      refine E_tk 4 ?_
      try simp only [Act.put,eS1,eS2,eS3,eA1,eA2,eA3]
      refine E_tk 5 ?_
      try simp only [Act.put,eS1,eS2,eS3,eA1,eA2,eA3]
      refine E_tk 6 ?_
      try simp only [Act.put,eS1,eS2,eS3,eA1,eA2,eA3]
      refine E_tk 7 ?_
      try simp only [Act.put,eS1,eS2,eS3,eA1,eA2,eA3]
      refine E_tk 8 ?_
      try simp only [Act.put,eS1,eS2,eS3,eA1,eA2,eA3]
      refine E_tk 9 ?_
      try simp only [Act.put,eS1,eS2,eS3,eA1,eA2,eA3]
      refine E_tk 10 ?_
      try simp only [Act.put,eS1,eS2,eS3,eA1,eA2,eA3]
      refine E_tk 11 ?_
      try simp only [Act.put,eS1,eS2,eS3,eA1,eA2,eA3]
      refine E_tk 12 ?_
      try simp only [Act.put,eS1,eS2,eS3,eA1,eA2,eA3]
      refine E_tk 13 ?_
      try simp only [Act.put,eS1,eS2,eS3,eA1,eA2,eA3]
      refine E_tk 14 ?_
      try simp only [Act.put,eS1,eS2,eS3,eA1,eA2,eA3]
      refine E_tk 15 ?_
      try simp only [Act.put,eS1,eS2,eS3,eA1,eA2,eA3]
      refine E_tk 16 ?_
      try simp only [Act.put,eS1,eS2,eS3,eA1,eA2,eA3]
      refine E_tk 17 ?_
      try simp only [Act.put,eS1,eS2,eS3,eA1,eA2,eA3]
      refine E_tk 18 ?_
      try simp only [Act.put,eS1,eS2,eS3,eA1,eA2,eA3]
      refine E_tk 19 ?_
      try simp only [Act.put,eS1,eS2,eS3,eA1,eA2,eA3]
      refine E_tk 20 ?_
      try simp only [Act.put,eS1,eS2,eS3,eA1,eA2,eA3]
      refine E_tk 21 ?_
      try simp only [Act.put,eS1,eS2,eS3,eA1,eA2,eA3]
      refine E_tk 23 ?_
      try simp only [Act.put,eS1,eS2,eS3,eA1,eA2,eA3]
      refine E_ready (rs:=[22]) (by kernel_rfl) (by decide) ?_;refine AllE.cons (o:=_) rfl (fun K hK=>?_) AllE.nil
      try simp only [eA1,eA2,eA3]
      go_simp
      refine (EN.out _ B1.out).mono ?_;rintro e w1 ⟨rfl,b1⟩;go_wp2_with fail;have HB1:Hid (Below wr.heap.size wr w1):=hid (B1.out.trans b1);clear b1;have S1:=hid (HS4.out _ HB1.out);refine hK.out _ _ S1.out (fun hHeld=>?_);clear hK K
      try simp only [Act.put,eS1,eS2,eS3,eA1,eA2,eA3]
      refine E_tk 24 ?_
      try simp only [Act.put,eS1,eS2,eS3,eA1,eA2,eA3]
      refine E_tk 25 ?_
      try simp only [Act.put,eS1,eS2,eS3,eA1,eA2,eA3]
      refine E_tk 26 ?_
      try simp only [Act.put,eS1,eS2,eS3,eA1,eA2,eA3]
      refine E_tk 27 ?_
      try simp only [Act.put,eS1,eS2,eS3,eA1,eA2,eA3]
      refine E_tk 28 ?_
      try simp only [Act.put,eS1,eS2,eS3,eA1,eA2,eA3]
      refine E_tk 29 ?_
      try simp only [Act.put,eS1,eS2,eS3,eA1,eA2,eA3]
      refine E_tk 30 ?_
      try simp only [Act.put,eS1,eS2,eS3,eA1,eA2,eA3]
      refine E_tk 31 ?_
      try simp only [Act.put,eS1,eS2,eS3,eA1,eA2,eA3]
      refine E_tk 32 ?_
      try simp only [Act.put,eS1,eS2,eS3,eA1,eA2,eA3]
      refine E_tk 33 ?_
      try simp only [Act.put,eS1,eS2,eS3,eA1,eA2,eA3]
      refine E_tk 34 ?_
      try simp only [Act.put,eS1,eS2,eS3,eA1,eA2,eA3]
      refine E_tk 35 ?_
      try simp only [Act.put,eS1,eS2,eS3,eA1,eA2,eA3]
      refine E_tk 36 ?_
      try simp only [Act.put,eS1,eS2,eS3,eA1,eA2,eA3]
      refine E_tk 37 ?_
      try simp only [Act.put,eS1,eS2,eS3,eA1,eA2,eA3]
      refine E_last (o:=_) (by kernel_rfl) rfl (by kernel_rfl) (fun K hK=>?_)
      try simp only [eA1,eA2,eA3]
      go_simp
      refine hK.out _ _ ?_;clear hK K;go_wp2;go_ret;exact ⟨by rw [← HQ.out];rfl,HB1.out⟩
end Go.Proofs.YtcflojdkaddemaaGreatDoor
