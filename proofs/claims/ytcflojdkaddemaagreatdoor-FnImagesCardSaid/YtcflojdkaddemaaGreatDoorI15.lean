/- Parts of the proof. -/
import Derived.Test.YtcflojdkaddemaaGreatDoorI14
import Derived.Test.YtcflojdkaddemaaGreatDoorI07
namespace Go.Proofs.YtcflojdkaddemaaGreatDoor
open Go.RowKit Go.Lib
theorem infoJ:(Tryz.prog.info? 3).map (fun i=>(i.zero,i.size,i.bytes))=some (some (.int .i64 0),1,8):=by kernel_rfl
set_option maxHeartbeats 1000000 in
theorem i_ops (a:Option Addr) (cap:Nat) (l:List TokL) (b:Int) (w:World) (hl:l.length≤1048576) (hr:ReadT w a l) (hn:NamesI l) (hb:b≤9223372036854775807) :
    Calls Tryz.prog 182 #[.slice a l.length cap,.int .i64 b] w (Ints 3 w.heap.size (opsZ l b) w):=by
  obtain ⟨i0,hi,hz0,hz1,hz2⟩:=info_parts infoJ;have S:=hid (fun W (x:Int) h hx=>i_end a cap l x W hl h hn hx);have HR:=hid hr;have HN:=hid hn;clear hr
  by_cases hneg:endZ l b<0
  · have HV:=hid (opsZ_none l b hneg)
    obtain ⟨R,hR⟩:∃ R,endZ l b=R:=⟨_,rfl⟩;have S1:=hid (fun W h=>hR▸S.out W b h hb);rw [hR] at hneg;clear hR hn;have hd:decide (R<0)=true:=by simpa using hneg
    go_enter Tryz.func182,Tryz.ntmps182
    go_wp2_with fail;refine (S1.out _ HR.out).mono ?_;rintro e w1 ⟨rfl,b1⟩;have HB:=hid b1;clear b1;go_wp2;go_ret;rw [HV.out];exact ⟨_,rfl,World.ownsRow_nil _ _ _ _,HB.out⟩
  · have hb0 : 0 ≤ b := by rcases Int.lt_or_le b 0 with h | h; · rw [endZ_neg l b h] at hneg; omega
                           · exact h
    obtain ⟨i,rfl⟩:=Int.eq_ofNat_of_zero_le hb0;obtain ⟨hil,htok⟩:=endZ_tok l i hneg;have ar0:=arZ_pos _ htok;have ar1:=(arZ_bd l[i]).2;obtain ⟨r,hr⟩:=Int.eq_ofNat_of_zero_le ar0;have HV:=hid (opsZ_some l i hneg hil r hr);have hr4:r≤4:=by omega
    obtain ⟨g,rfl,hg,c0,c1,c2⟩:=HR.out i hil;have hsz:=hn i hil;have HA:Hid (∀ W:World,Calls Tryz.prog 208 #[.agg #[.int .i64 l[i].kind,.int .i64 l[i].num,.string l[i].name]] W fun e w'=>e=.returned (.int .i64 (r:Int))∧Below W.heap.size W w'):=hid (fun W=>by have:=i_arity l[i].kind l[i].num l[i].name W hsz;rw [show arZ ⟨l[i].kind,l[i].num,l[i].name⟩=arZ l[i] from rfl,hr] at this;exact this);obtain ⟨t,ht⟩:∃ t,l[i]=t:=⟨_,rfl⟩;rw [ht] at c0 c1 c2 HA;obtain ⟨R,hR⟩:∃ R,endZ l (i:Int)=R:=⟨_,rfl⟩;have S1:=hid (fun W h=>hR▸S.out W (i:Int) h hb);rw [hR] at hneg;have hd:decide (R<0)=false:=by simpa using hneg
    have k0:(0:Int)≤(i:Int):=by omega
    have k1:(i:Int)<(l.length:Int):=by omega
    clear hR hn htok ar0 ar1 hr ht hsz
    go_enter Tryz.func182,Tryz.ntmps182
    go_wp2_with fail;refine (S1.out _ HR.out).mono ?_;rintro e w1 ⟨rfl,b1⟩;have HB1:=hid b1;have d0:w1.cell? ⟨g,i*3,none⟩=some (.int .i64 t.kind):=(HB1.out.cell (p:=⟨g,_,none⟩) hg).trans c0;have d1:w1.cell? ⟨g,i*3+1,none⟩=some (.int .i64 t.num):=(HB1.out.cell (p:=⟨g,_,none⟩) hg).trans c1;have d2:w1.cell? ⟨g,i*3+2,none⟩=some (.string t.name):=(HB1.out.cell (p:=⟨g,_,none⟩) hg).trans c2;have z1:=HB1.out.size;clear b1 c0 c1 c2;go_wp2_with fail;refine (HA.out _).mono ?_;rintro e w2 ⟨rfl,b2⟩;have HB2:=hid (HB1.out.trans (b2.mono z1));clear b2 d0 d1 d2 hd;go_wp2_with fail
    go_loopw [5,6,18] (fun v x k wr=>∃ (j m:Nat) (p:List Int) (y:Int),k=.int .i64 (j:Int)∧j+m=r∧x=.int .i64 y∧y≤1048577∧m+p.length≤4∧p++opsFrom l m y=opsFrom l r ((i:Int)+1)∧wr.ownsRow w.heap.size 3 1 v p.length (intV p)∧Below w.heap.size w wr)
      (fun _ _ k _=>r - (intOf k).toNat)
    case atStart=>exact ⟨0,r,[],(i:Int)+1,rfl,by omega,rfl,by omega,by simpa using hr4,rfl,World.ownsRow_nil _ _ _ _,HB2.out⟩
    case round =>
      obtain ⟨j,m,p,y,rfl,hjm,rfl,hy,hm4,hres,hown,hbel⟩:=hrel;have HJ:=hid hjm;have hj4:j≤r:=by omega
      clear hjm;have HS:=hid hres;have HB:=hid hbel;have hB:=hbel.size;clear hres hbel
      by_cases hm0:0<m
      · obtain ⟨m',rfl⟩:∃ m',m=m'+1:=⟨m - 1,by omega⟩
        have hjr:j<r:=by have:=HJ.out;omega
        have h63:p.length+1≤maxLen:=by unfold maxLen;omega
        have hby:(p.length+1)*8≤140737488355328:=by omega
        go_wp2_with (at_builtin;refine wpList_append_own _ rfl _ _ 36 rfl w.heap.size 3 i0 (.int .i64 0) 1 8 Tryz.underlying36 hi hz0 hz1 hz2 rfl (by decide) _ _ _ rfl (hown.alloc _) ⟨wr.heap.size,0,none⟩ 1 1 [.int .i64 y] rfl rfl ?c1 ?c2 h63 hby ?c5 ?_)
        case c1=>exact cell_one_new _ _ _
        case c2=>intro u hu;simp at hu;subst hu;rfl
        case c5=>simp;omega
        intro v' w3 hown1 hgrow _;have HO4:=hid (owns_ints (l:=p++[y]) hown1 (by rw [intV_append];rfl));have HB3:=hid (below_app' hown HB.out hB hgrow);have HR3:=hid (HR.out.below HB3.out);have z3:=HB3.out.size;clear hown1 hgrow hown;obtain ⟨y',hy'⟩:∃ y',endZ l y=y':=⟨_,rfl⟩;have S3:=hid (fun W h=>hy'▸S.out W y h (by omega));have HS':Hid ((p++[y])++opsFrom l m' y'=opsFrom l r ((i:Int)+1)):=hid (by rw [← hy',List.append_assoc];exact HS.out);have hy'':y'≤1048577:=by have:=endZ_bd l y;omega
        clear hy';go_wp2_with fail;refine (S3.out _ HR3.out).mono ?_;rintro e w4 ⟨rfl,b4⟩;have HB4:=hid (HB3.out.trans (b4.mono z3));have HO5:=hid (owns3_below HO4.out b4);clear b4;go_wp2;go_roundw
        case rel=>exact ⟨j+1,m',p++[y],y',by go_num,by have:=HJ.out;omega,rfl,hy'',by simp;omega,HS'.out,HO5.out,HB4.out⟩
        case measure=>simp [intOf];omega
      · have hm00:m=0:=by omega
        subst hm00;have HE:Hid (p=opsFrom l r ((i:Int)+1)):=hid (by have:=HS.out;simpa [opsFrom] using this);have HO4:=hid hown;have hjr:¬ j<r:=by have:=HJ.out;omega
        clear hown;go_wp2;go_ret;rw [HV.out,← HE.out];exact ⟨_,rfl,HO4.out,HB.out⟩
end Go.Proofs.YtcflojdkaddemaaGreatDoor

namespace Go.Proofs.YtcflojdkaddemaaGreatDoor
open Go.RowKit Go.Lib Go.Maps
structure BodyOk (K:KcE) (w:World) (sc:ScL) (rest scs:List ScL) (b:BdW):Prop where
 eq:scs=sc :: rest
 so:ScsOk K.E scs
 sf:ScF K.E scs
 ab:Arnd jT w b.ab rest
 lt:∀ a,b.ab=some a→a<b.bb
 ou:b.ab.isSome=!sc.outer
section
variable {B cb:Nat} {w w':World} {K:KcE} {t:CiS} {iv jv:Value} {X:List ItW} {sc:ScL} {rest scs:List ScL} {b:BdW} {line:Nat} {M':List Value}
theorem BodyOk.cur (h:BodyOk K w sc rest scs b):curS scs=sc:=by rw [h.eq];rfl
theorem BodyOk.chn (h:BodyOk K w sc rest scs b):sc.chain.length+1=scs.length:=by have:=h.so.ok.1;rw [h.cur] at this;exact this
theorem BodyOk.stepE (h:BodyOk K w sc rest scs b) (hC:CiAt jT Tryz.prog B cb w K t iv X sc b jv line) (hS:Step cb (ME iv b.bb) M' w w'):BodyOk K w' sc rest scs b :=
 ⟨h.eq,h.so,h.sf,h.ab.keep b.bb h.lt fun k cs fr hk hkk=>hS.block k (by have:=hC.bd.blt;omega) (fun e=>by
  rw [e,hC.cc.row] at hkk;injection hkk with e'
  injection e' with _ e' _
  exact absurd e' (by decide)) (fun v hv e=>by
  unfold ME at hv;simp only [List.mem_cons,List.not_mem_nil,or_false] at hv
  rcases hv with rfl|rfl
  ·exact ne_types hC.cc.its hkk (by decide) e
  ·have e:b.bb=k:=Option.some.inj e
   omega),h.lt,h.ou⟩
theorem BodyOk.stepL (h:BodyOk K w sc rest scs b) (hC:CiAt jT Tryz.prog B cb w K t iv X sc b jv line) (hS:Step cb (ML iv jv b) M' w w'):BodyOk K w' sc rest scs b :=
 ⟨h.eq,h.so,h.sf,h.ab.keep b.bb h.lt fun k cs fr hk hkk=>hS.block k (by have:=hC.bd.blt;omega) (fun e=>by
  rw [e,hC.cc.row] at hkk;injection hkk with e'
  injection e' with _ e' _
  exact absurd e' (by decide)) (fun v hv e=>by
  unfold ML at hv;simp only [List.mem_cons,List.not_mem_nil,or_false] at hv
  rcases hv with rfl|rfl|rfl|rfl
  ·exact ne_types hC.cc.its hkk (by decide) e
  ·have e:b.bb=k:=Option.some.inj e
   omega
  ·exact ne_types hC.bd.jr hkk (by decide) e
  ·have e:b.fb=k:=Option.some.inj e
   obtain ⟨D',f1,_⟩:=hC.bd.firsts;rw [← e] at hkk;exact map_not f1 hkk rfl),h.lt,h.ou⟩
theorem BodyOk.below (h:BodyOk K w sc rest scs b) (hC:CiAt jT Tryz.prog B cb w K t iv X sc b jv line) (hb:Below w.heap.size w w'):BodyOk K w' sc rest scs b:=h.stepE hC (M':=ME iv b.bb) (Step.of_below hb)
end
def EmD (B cb:Nat) (K:KcE) (t':CiS) (iv:Value) (sc:ScL) (b:BdW) (jv:Value) (line:Nat) (w:World) (e:Ending) (w':World):Prop :=
 e=.returned (.tuple #[])∧∃ dd iv' X',Hid (CiAt jT Tryz.prog B cb w' K { t' with depth:=dd } iv' X' sc b jv line)∧Hid (Step cb (ME iv b.bb) (ME iv' b.bb) w w')
theorem EmR.any {B cb:Nat} {K:KcE} {t:CiS} {iv jv:Value} {sc:ScL} {b:BdW} {line:Nat} {w w':World} {e:Ending} (h:EmR B cb K t iv sc b jv line w e w'):EmD B cb K t iv sc b jv line w e w':=by
 obtain ⟨h1,iv',X',hC,hS⟩:=h;exact ⟨h1,t.depth,iv',X',hC,hS⟩
def IExprOk (B cb:Nat) (K:KcE) (wb:World) (N:Nat):Prop :=
 ∀ (scs:List ScL) (sc:ScL) (rest:List ScL) (k i:Nat) (t:CiS) (z:Nat×CiS) (w:World) (iv:Value) (X:List ItW) (b:BdW) (jv:Value) (xe:Option Addr) (xc:Nat),
  cmiF K.E N (.expr scs k i) t=some z→BodyOk K w sc rest scs b→Kn K.E scs k→(∃ q,scanN ((exprAt K.E.p k).drop i) 1=some q)→0≤t.depth→t.depth≤2000000+100*(scs.length:Int)+(i:Int)→z.2.items.length≤1000000→t.used≤1000 →
  CiAt jT Tryz.prog B cb w K t iv X sc b jv k→Below wb.heap.size wb w→ReadT wb xe (exprAt K.E.p k)→(exprAt K.E.p k).length≤20→NamesI (exprAt K.E.p k) →
  Calls Tryz.prog 222 #[.pointer (some ⟨b.bb,0,none⟩),.slice xe (exprAt K.E.p k).length xc,.int .i64 (i:Int)] w (EmR B cb K z.2 iv sc b jv k w)
def CallTo (E:CmpE) (N:Nat) (scs:List ScL) (sc:ScL) (k g:Nat) (t R:CiS):Prop :=
 if replJ E scs t.items.length g=true then ∃ z,cmiF E N (.lines (newSc E sc g k :: scs) (g+1) (enterJ E sc (newSc E sc g k) k t).depth) { enterJ E sc (newSc E sc g k) k t with jumps:=[],firsts:=[],pend:=false }=some z ∧
  R={ z.2 with pend:=(enterJ E sc (newSc E sc g k) k t).pend,jumps:=t.jumps,firsts:=t.firsts }
 else R=emitJ E t 12 (funNo E.p g) k sc.chain
def ICallOk (B cb:Nat) (K:KcE) (wb:World) (N:Nat):Prop :=
 ∀ (scs:List ScL) (sc:ScL) (rest:List ScL) (k g:Nat) (t R:CiS) (w:World) (iv:Value) (X:List ItW) (b:BdW) (jv:Value),
  CallTo K.E N scs sc k g t R→BodyOk K w sc rest scs b→g ∈ funs K.E.p→((argsZ K.E.p (g:Int)).length:Int)≤t.depth→t.depth - ((argsZ K.E.p (g:Int)).length:Int)≤2000000+100*(scs.length:Int)+50→R.items.length≤1000000→t.used≤1000 →
  CiAt jT Tryz.prog B cb w K t iv X sc b jv k→Below wb.heap.size wb w →
  Calls Tryz.prog 230 #[.pointer (some ⟨b.bb,0,none⟩),.int .i64 (g:Int)] w (EmD B cb K R iv sc b jv k w)
theorem own_in8 {B T n s c:Nat} {w:World} {a:Option Addr} {xs:List Value} (h:w.ownsRow B T s (.slice a n c) n xs) (hn:0<n):∃ g,a=some ⟨g,0,none⟩:=by
 rcases h.2 with ⟨_,h0⟩|⟨g,cap,cur,e,_⟩
 ·omega
 ·injection e with e
  exact ⟨g,e⟩
theorem slot_small (E:CmpE) (sc:ScL) (i:Nat) (hi:i<sc.locs.length) (hf:freeN E sc≤1000) (ha:E.args≤1000):-4000≤slotZ E sc i∧slotZ E sc i≤1000:=by
 unfold slotZ;unfold freeN at hf
 by_cases ho:sc.outer=true
 ·rw [if_pos ho] at hf
  by_cases hi2:i<E.args
  ·rw [if_pos ⟨ho,hi2⟩];omega
  ·rw [if_neg (fun h=>hi2 h.2),if_pos ho];omega
 ·rw [if_neg ho] at hf
  rw [if_neg (fun h=>ho h.1),if_neg ho];omega
theorem opsFrom_get (l:List TokL) (m x:Nat):opsFrom l (m+1) (x:Int)=(x:Int) :: opsFrom l m (endZ l (x:Int)):=rfl
set_option maxRecDepth 100000 in
set_option maxHeartbeats 4000000 in
theorem i_expr (B cb:Nat) (K:KcE) (pa:Option Addr) (pc:Nat) (PX:List LnL) (fa:Option Addr) (fc:Nat) (wb:World) (hP:PgI K pa pc PX fa fc wb) (hBw:wb.heap.size≤B) (n:Nat) (hE:∀ m,m≤n→IExprOk B cb K wb m) (hC:ICallOk B cb K wb n):IExprOk B cb K wb (n+1):=by
 intro scs sc rest k i t z w iv X b jv xe xc h hb hk hq hd1 hd2 hzl hu hci hW hxe hl20 hnm;obtain ⟨q,hq⟩:=hq;have hcur:=hb.cur;obtain ⟨hi,htb,q',rfl,hq'⟩:=scan_one _ _ _ hq;have htk:=tokAt_get K.E.p k i hi;have hkn:=hk _ (List.getElem_mem hi);have h60:K.E.p.length≤60:=hP.ok.1.1;have hlb:=hP.ok.1.2;have hinl:=hP.inl;have hsl:scs.length≤4:=by have:=hb.sf.2.1;omega
 rw [cmiF] at h;obtain ⟨y,h1,h2⟩:=cbind h;dsimp only at h2;rw [hcur] at h2;rw [htk] at h1 h2
 -- the operands
 obtain ⟨l,hl⟩:∃ l,exprAt K.E.p k=l:=⟨_,rfl⟩;have HL:=hid hl;rw [hl] at hi;have hli:(exprAt K.E.p k)[i]'(by rw [hl];exact hi)=l[i]:=by simp only [hl]
 rw [hli] at h1 h2 hq' htb hkn;rw [hl] at hq' hl20 hnm hxe hq;have hend:¬ endZ l (i:Int)<0:=by rw [endZ_nat,hq];show ¬ (i:Int)+((q'+1:Nat):Int)<0;omega
 have har:arZ l[i]=((arN l[i]:Nat):Int):=by have:=arZ_pos l[i] htb;unfold arN;omega
 have hoz:=opsZ_some l i hend hi (arN l[i]) har;have hr4:arN l[i]≤4:=by have:=(arZ_bd l[i]).2;omega
 have S:=hid (i_ops xe xc l (i:Int) w (by omega) (fun j hj=>by
  obtain ⟨g,e,hg,c0,c1,c2⟩:=hxe j hj;exact ⟨g,e,Nat.lt_of_lt_of_le hg hW.size,(hW.cell (p:=⟨g,_,none⟩) hg).trans c0,(hW.cell (p:=⟨g,_,none⟩) hg).trans c1,(hW.cell (p:=⟨g,_,none⟩) hg).trans c2⟩) hnm (by omega))
 have hrl:(opsZ l (i:Int)).length=arN l[i]:=by rw [hoz,opsFrom_length]
 obtain ⟨R0,hR0⟩:∃ R,opsZ l (i:Int)=R:=⟨_,rfl⟩;rw [hR0] at hoz hrl S;obtain ⟨u,hu0⟩:∃ u,l[i]=u:=⟨_,rfl⟩;rw [hu0] at h1 h2 hq' htb hkn hoz hrl hr4;obtain ⟨r,hr⟩:∃ r,arN u=r:=⟨_,rfl⟩;rw [hr] at h1 hq' hoz hrl hr4;obtain ⟨g,rfl,hg,c0,c1,c2⟩:=hxe i hi;rw [hu0] at c0 c1 c2;have HXE:=hid hxe;have HBO:=hid hb;have HCI:=hid hci;have HW:=hid hW;have HP:=hid hP;have HKN:=hid hk;have bd:=cmi_bound (E:=K.E) h60 hlb;have HBD:=hid bd;have hSF:=hb.sf;have HSF:=hid hSF;obtain ⟨y1,y2,y3,y4,y5⟩:=(bd n).2.1 _ _ _ _ _ _ hSF h1;have HY:Hid (t.items.length≤y.2.items.length∧y.2.used≤max t.used (64*(K.E.inl+1))∧y.2.depth=t.depth+(r:Int)∧y.2.jumps=t.jumps∧y.2.firsts=t.firsts):=hid ⟨y1,y2,y3,y4,y5⟩;have HR0:Hid (R0=opsFrom l r ((i:Int)+1)):=hid hoz;have HQ':Hid (∃ q',scanN (l.drop (i+1)) r=some q'):=hid ⟨q',hq'⟩;have H1:=hid h1;have H2:=hid h2;have HKU:=hid hkn;have HTB:=hid htb;have HAR:Hid (arN u=r):=hid hr;have HLU:Hid (u ∈ l):=hid (by rw [← hu0];exact List.getElem_mem hi);have HNU:Hid (u.name.size≤maxLen):=hid (by rw [← hu0];exact hnm i hi);have HNM:=hid hnm;have HZL:Hid (y.2.items.length≤z.2.items.length∧z.2.items.length≤1000000):=hid ⟨?zl,hzl⟩
 case zl =>
  have e1:=((bd (n+1)).1 scs k i t z hSF (by rw [cmiF];exact h)).1
  by_cases c0:u.kind=0
  ·rw [if_pos c0] at h2;obtain rfl:=Option.some.inj h2;exact (onw_emit K.E y.2 _ _ _ _).len
  rw [if_neg c0] at h2
  by_cases c1:u.kind=1
  ·rw [if_pos c1] at h2;obtain rfl:=Option.some.inj h2;exact (onw_emit K.E y.2 _ _ _ _).len
  rw [if_neg c1] at h2
  by_cases c7:u.kind=7
  ·rw [if_pos c7] at h2
   split at h2
   ·rename_i hrp
    cases hx:cmiF K.E n (.lines (newSc K.E sc (findZ K.E.p u.name).toNat k :: scs) ((findZ K.E.p u.name).toNat+1) (enterJ K.E sc (newSc K.E sc (findZ K.E.p u.name).toNat k) k y.2).depth) { enterJ K.E sc (newSc K.E sc (findZ K.E.p u.name).toNat k) k y.2 with jumps:=[],firsts:=[],pend:=false } with
    | none=>rw [hx] at h2;cases h2
    | some p =>
     rw [hx] at h2;obtain rfl:=Option.some.inj h2;have hn:=hSF.new h60 hlb (k:=k) hrp;rw [hcur] at hn;exact Nat.le_trans (onw_enter K.E sc (newSc K.E sc (findZ K.E.p u.name).toNat k) k y.2).1 ((bd n).2.2 _ _ _ _ _ hn hx).1
   ·obtain rfl:=Option.some.inj h2;exact (onw_emit K.E y.2 _ _ _ _).len
  ·rw [if_neg c7] at h2;obtain rfl:=Option.some.inj h2;exact (onw_emit K.E y.2 _ _ _ _).len
 have HHE:=hid hE;have HCC:=hid hC;obtain ⟨e0,e3,e7,_⟩:=hci.cells;have k0:(0:Int)≤(i:Int):=by omega
 have k1:(i:Int)<(l.length:Int):=by omega
 rw [hl];clear h h1 h2 hb hk hq hci hW hxe hnm htk hkn h60 hlb bd hSF y1 y2 y3 y4 y5 hoz hend har hR0 hu0 hli hr htb hq' hE hC hP hcur hl hzl
 go_enter Tryz.func222,Tryz.ntmps222
 go_wp2_with fail;refine S.out.mono ?_;rintro e w1 ⟨v0,rfl,O1,b1⟩;obtain ⟨p0,d0,rfl⟩:=own_sh O1;rw [hrl] at O1 ⊢;have HO1:=hid O1;have HB1:=hid b1;have HRL:Hid (R0.length=r):=hid hrl;clear O1 b1 S hrl;go_wp2_with fail
 go_loopw [21] (fun jv' wr=>∃ (q nn xq:Nat) (tq:CiS) (ivq:Value) (Xq:List ItW),q≤r∧jv'=.int .i64 (q:Int)∧nn≤n∧Hid (cmiF K.E nn (.args scs k xq (r - q)) tq=some y)∧Hid (∃ pre,R0=pre++opsFrom l (r - q) (xq:Int)∧pre.length=q)∧Hid (∃ p,scanN (l.drop xq) (r - q)=some p) ∧
   Hid (tq.depth=t.depth+(q:Int)∧i+1+q≤xq∧tq.used≤max t.used (64*(K.E.inl+1)))∧Hid (CiAt jT Tryz.prog B cb wr K tq ivq Xq sc b jv k)∧Hid (Step cb (ME iv b.bb) (ME ivq b.bb) w wr)∧Hid (wr.ownsRow w.heap.size 3 1 (.slice p0 r d0) r (intV R0))) (fun jv' _=>r - (RowKit.intOf jv').toNat)
 case atStart=>exact ⟨0,n,i+1,t,iv,X,Nat.zero_le _,rfl,Nat.le_refl _,hid (by rw [Nat.sub_zero];exact H1.out),hid ⟨[],by rw [List.nil_append,Nat.sub_zero];rw [show ((i+1:Nat):Int)=(i:Int)+1 from by omega];exact HR0.out,rfl⟩,hid (by rw [Nat.sub_zero];exact HQ'.out),hid ⟨by simp,by omega,Nat.le_max_left ..⟩,hid (HCI.out.below HB1.out),hid (Step.of_below HB1.out),HO1⟩
 case round =>
  obtain ⟨q,nn,xq,tq,ivq,Xq,hqr,rfl,hnn,HA,HPR,HSC,HD,HCQ,HSQ,HOQ⟩:=hrel
  by_cases hlt:q<r
  ·obtain ⟨m,hm⟩:∃ m,r - q=m+1:=⟨r - q - 1,by omega⟩
   have hA:=HA.out;have hPR:=HPR.out;have hSC:=HSC.out;rw [hm] at hA hPR hSC;obtain ⟨nn',rfl⟩:∃ nn',nn=nn'+1:=by
    cases nn with
    | zero=>simp [cmiF] at hA
    | succ nn'=>exact ⟨nn',rfl⟩
   rw [cmiF] at hA;obtain ⟨z1,a1,a2⟩:=cbind hA;obtain ⟨pp,hpp⟩:=hSC;obtain ⟨q1,q2,hq1,hq2,hqq⟩:=scan_next _ _ _ _ hpp;have hex:z1.1=xq+q1:=(cmi_ends nn').1 scs k xq tq z1 q1 (by rw [HL.out];exact hq1) a1;obtain ⟨b1,b2,b3,b5,b6⟩:=(HBD.out nn').1 scs k xq tq z1 HSF.out a1;obtain ⟨b4,b7⟩:=(HBD.out nn').2.1 scs k z1.1 m z1.2 y HSF.out a2;obtain ⟨hxl,hxt,q0,hq0,hxs⟩:=scan_one _ _ _ hq1;have hBq:=HBO.out.stepE HCI.out HSQ.out;have hbel:Below wb.heap.size wb wr:=HW.out.trans ((HCI.out.baseE HSQ.out).mono hBw);obtain ⟨dq1,dq2,dq3⟩:=HD.out;have hzl:=HZL.out;have HX:=HHE.out nn' (by omega) scs sc rest k xq tq z1 wr ivq Xq b jv (some ⟨g,0,none⟩) xc a1 hBq HKN.out ⟨q1,by rw [HL.out];exact hq1⟩ (by omega) (by omega) (by omega) (by omega) HCQ.out hbel (by rw [HL.out];exact HXE.out) (by rw [HL.out];exact hl20) (by rw [HL.out];exact HNM.out);rw [HL.out] at HX;have HX:=hid HX;obtain ⟨pre,hpre,hpl⟩:=hPR;rw [opsFrom_get] at hpre;obtain ⟨gp,rfl⟩:=own_in8 HOQ.out (by omega);have hcell:wr.cell? ⟨gp,q,none⟩=some (.int .i64 (xq:Int)):=by
    rw [HOQ.out.cellAt q (by omega),hpre];unfold intV;rw [List.map_append,List.getElem?_append_right (by rw [List.length_map,hpl];exact Nat.le_refl _),List.length_map,hpl,Nat.sub_self];rfl
   have hen:endZ l (xq:Int)=(z1.1:Int):=by rw [endZ_nat,hq1,hex];rfl
   have NX:Hid (cmiF K.E nn' (.args scs k z1.1 (r - (q+1))) z1.2=some y∧(∃ pre,R0=pre++opsFrom l (r - (q+1)) (z1.1:Int)∧pre.length=q+1)∧(∃ p,scanN (l.drop z1.1) (r - (q+1))=some p)∧(z1.2.depth=t.depth+((q+1:Nat):Int)∧i+1+(q+1)≤z1.1∧z1.2.used≤max t.used (64*(K.E.inl+1)))):=hid (by
    rw [show r - (q+1)=m from by omega];refine ⟨a2,⟨pre++[(xq:Int)],?_,by rw [List.length_append,hpl];rfl⟩,⟨q2,by rw [hex];exact hq2⟩,by rw [b3,dq1];push_cast;omega,?_,by omega⟩
    ·rw [List.append_assoc,← hen];exact hpre
    ·obtain ⟨_,_,q0',hq0',_⟩:=scan_one _ _ _ hq1
     omega)
   have HRW:Hid (∀ iv2 W,Step cb (ME ivq b.bb) (ME iv2 b.bb) wr W→W.ownsRow w.heap.size 3 1 (.slice (some ⟨gp,0,none⟩) r d0) r (intV R0)):=hid (fun iv2 W hS=>hS.row HOQ.out (ne_types HOQ.out HCQ.out.cc.row (by decide)) (fun v hv=>by
    unfold ME at hv;simp only [List.mem_cons,List.not_mem_nil,or_false] at hv
    rcases hv with rfl|rfl
    ·exact ap_types HOQ.out HCQ.out.cc.its (by decide)
    ·intro gg e e'
     have e':b.bb=gg:=Option.some.inj e';exact ne_types HOQ.out HCQ.out.bd.row (by decide) (by rw [e,e'])))
   have j0:(0:Int)≤(q:Int):=by omega
   have j1:(q:Int)<(r:Int):=by omega
   clear hqq b5 b6 b7 hxt hxs hA hpp hq1 hq2 hex b1 b2 b3 b4 a1 a2 hxl hq0 hBq hbel dq1 dq2 dq3 hzl hpre hpl hen hm;go_wp2_with fail;refine HX.out.mono ?_;rintro e w2 ⟨rfl,iv2,X2,HC2,HS2⟩;go_wp2;go_roundw
   case rel=>exact ⟨q+1,nn',z1.1,z1.2,iv2,X2,by omega,by go_num,by omega,hid NX.out.1,hid NX.out.2.1,hid NX.out.2.2.1,hid NX.out.2.2.2,HC2,hid (HSQ.out.trans HS2.out),hid (HRW.out _ _ HS2.out)⟩
   case measure=>simp [RowKit.intOf];omega
  ·have hqq:q=r:=by omega
   subst hqq;have hA:=HA.out;rw [Nat.sub_self] at hA;have hty:y=(xq,tq):=by
    cases nn with
    | zero=>simp [cmiF] at hA
    | succ nn=>rw [cmiF] at hA;exact (Option.some.inj hA).symm
   have hy2:tq=y.2:=by rw [hty]
   subst hy2;clear hA hty HA HPR HSC HD hnn HOQ HQ';obtain ⟨dy1,dy2,dy3,dy4,dy5⟩:=HY.out;have hzl:=HZL.out;have hwbr:Below wb.heap.size wb wr:=HW.out.trans ((HCI.out.baseE HSQ.out).mono hBw);have hBq:=HBO.out.stepE HCI.out HSQ.out;have r0:wr.cell? ⟨g,i*3,none⟩=some (.int .i64 u.kind):=(hwbr.cell (p:=⟨g,_,none⟩) hg).trans c0;have r1:wr.cell? ⟨g,i*3+1,none⟩=some (.int .i64 u.num):=(hwbr.cell (p:=⟨g,_,none⟩) hg).trans c1;have r2:wr.cell? ⟨g,i*3+2,none⟩=some (.string u.name):=(hwbr.cell (p:=⟨g,_,none⟩) hg).trans c2;obtain ⟨wt,hwt⟩:∃ W,wr.alloc (.cells #[.int .i64 u.kind,.int .i64 u.num,.string u.name] 147)=W:=⟨_,rfl⟩;have hbt:Below wr.heap.size wr wt:=by rw [← hwt];exact (Below.refl _ _).alloc (Nat.le_refl _) _
   have HTR:Hid (wt.heap[wr.heap.size]?=some (.cells #[.int .i64 u.kind,.int .i64 u.num,.string u.name] 147 (0,0))):=hid (by rw [← hwt];exact heap_alloc_new wr _);have x0:wt.cell? ⟨wr.heap.size,0,none⟩=some (.int .i64 u.kind):=(blk HTR.out).1 0 _ rfl;have x1:wt.cell? ⟨wr.heap.size,1,none⟩=some (.int .i64 u.num):=(blk HTR.out).1 1 _ rfl;have x2:wt.cell? ⟨wr.heap.size,2,none⟩=some (.string u.name):=(blk HTR.out).1 2 _ rfl;have HCT:=hid (HCQ.out.below hbt);have HBT:=hid (hBq.below HCQ.out hbt);have HST:=hid (HSQ.out.trans (Step.of_below (rb:=cb) (M:=ME ivq b.bb) hbt));have HWT:Hid (Below wb.heap.size wb wt):=hid (hwbr.trans (hbt.mono hwbr.size));have FIN:Hid (∀ W (t1:CiS) iv1 X1,CiAt jT Tryz.prog B cb W K t1 iv1 X1 sc b jv k→Step cb (ME ivq b.bb) (ME iv1 b.bb) wt W→EmR B cb K { t1 with depth:=t.depth+1 } iv sc b jv k w (.returned (.tuple #[])) (W.setCell ⟨cb,7,none⟩ (.int .i64 (t.depth+1)))):=hid (fun W t1 iv1 X1 hCW hSW=>⟨rfl,iv1,X1,hid (hCW.cellC jT_ok 7 _ rfl rfl rfl rfl rfl),hid (HST.out.trans (hSW.trans (cellC_step _ 7 _)))⟩);have hsm:Sm8 y.2:=⟨by omega,by omega,by omega⟩;have hcl:sc.chain.length≤1048576:=by have:=hBq.chn;omega
   have EMT:Hid (∀ W c a,Below wt.heap.size wt W→Calls Tryz.prog 185 #[.pointer (some ⟨b.bb,0,none⟩),.int .i64 c,.int .i64 a] W (EmR B cb K (emitJ K.E y.2 c a k sc.chain) ivq sc b jv k W)):=hid (fun W c a hb=>i_emit B cb K y.2 ivq Xq sc b jv k c a W (HCT.out.below hb) hcl (by rw [HCT.out.len];omega));have hwd:IntKind.i64.wrap (t.depth+1)=t.depth+1:=IntWalk.i64_in _ (by omega);have HTW:=hid hwt;have HSM:=hid hsm;have HTK:=hid (tok_kind HTB.out);have NUM:Hid (y.2.items.length≤1000000∧0≤y.2.depth∧y.2.used≤1000∧y.2.depth=t.depth+(q:Int)):=hid ⟨by omega,by omega,by omega,dy3⟩;have h2:=H2.out;clear dy1 dy2 dy3 dy4 dy5 hzl hwbr hBq hbt hwt hsm
   by_cases k0':u.kind=0
   ·rw [if_pos k0'] at h2
    have HZ2:Hid ({ emitJ K.E y.2 0 u.num k sc.chain with depth:=t.depth+1 }=z.2):=hid (by rw [← Option.some.inj h2]);have HE:=hid (EMT.out wt 0 u.num (Below.refl _ _));rw [k0'] at r0 x0 HTW;clear h2 k0';go_wp2_with fail;rw [HTW.out];refine HE.out.mono ?_;rintro e w2 ⟨rfl,iv2,X2,HC2,HS2⟩;have e0:=HC2.out.cells.1;have e7:w2.cell? ⟨cb,7,none⟩=some (.int .i64 y.2.depth):=HC2.out.cells.2.2.1;have g7:=HC2.out.cells.2.2.2;go_wp2_with fail
    go_end0
    have hf:=FIN.out _ _ _ _ HC2.out HS2.out;rw [HZ2.out] at hf;exact hf
   rw [if_neg k0'] at h2;have q0':(u.kind == 0)=false:=by simpa using k0'
   by_cases k1':u.kind=1
   ·rw [if_pos k1'] at h2
    have HZ2:Hid ({ emitJ K.E y.2 (placeZ K.E y.2.depth sc (varIx sc.locs u.name)).1 (placeZ K.E y.2.depth sc (varIx sc.locs u.name)).2 k sc.chain with depth:=t.depth+1 }=z.2):=hid (by rw [← Option.some.inj h2]);have hmem:u.name ∈ sc.locs:=by have h:=HKU.out.1 k1';rw [HBT.out.cur] at h;exact h
    have hix:varIx sc.locs u.name<sc.locs.length:=List.findIdx_lt_length_of_exists ⟨u.name,hmem,by simp⟩;have hfr:freeN K.E sc≤1000:=by have h:=HBT.out.sf.2.2;rw [HBT.out.cur] at h;omega
    have hsl2:=slot_small K.E sc (varIx sc.locs u.name) hix hfr (by have:=HP.out.args;omega);have LK:Hid (∀ W,Below wt.heap.size wt W→(Instr.lookup 177 (.map (some b.mb)) (.string u.name) false).run Tryz.prog W=.ok (.int .i64 (slotZ K.E sc (varIx sc.locs u.name))) W):=hid (fun W hb=>by
     obtain ⟨nn,D,d1,d2,_⟩:=(HCT.out.below hb).bd.slots;obtain ⟨c,hrun,hat,_⟩:=d1.lookup_int keyS Tryz.underlying177 Tryz.underlying3 (zerI _) (keyS_of HNU.out);have h3:=d2 u.name hmem;rw [h3] at hat;injection hat with hat
     injection hat with _ hat
     rw [hat];exact hrun)
    have AC:Hid (∀ W,Below wt.heap.size wt W→Calls Tryz.prog 229 #[.pointer (some ⟨b.bb,0,none⟩),.int .i64 3,.int .i64 1,.int .i64 (slotZ K.E sc (varIx sc.locs u.name))] W fun e w'=>e=.returned (.tuple #[.int .i64 (placeZ K.E y.2.depth sc (varIx sc.locs u.name)).1,.int .i64 (placeZ K.E y.2.depth sc (varIx sc.locs u.name)).2])∧Below W.heap.size W w'):=hid (fun W hb=>by
     have h:=i_access B cb K y.2 ivq Xq sc b jv k 3 1 (slotZ K.E sc (varIx sc.locs u.name)) W (HCT.out.below hb) HSM.out (by omega) (by omega);rw [acc_load] at h;exact h)
    have SS:Hid (∀ W,Below wt.heap.size wt W→W.cell? ⟨b.bb,4,none⟩=some (.map (some b.mb))∧W.cell? ⟨wr.heap.size,2,none⟩=some (.string u.name)∧(Instr.lookup 177 (.map (some b.mb)) (.string u.name) false).run Tryz.prog W=.ok (.int .i64 (slotZ K.E sc (varIx sc.locs u.name))) W):=hid (fun W hb=>⟨(blk (HCT.out.below hb).bd.row).1 4 _ rfl,(blk ((hb.block _ (blk HTR.out).2.2).trans HTR.out)).1 2 _ rfl,LK.out W hb⟩);obtain ⟨pz,hpz⟩:∃ pz,placeZ K.E y.2.depth sc (varIx sc.locs u.name)=pz:=⟨_,rfl⟩;obtain ⟨sz,hsz⟩:∃ sz,slotZ K.E sc (varIx sc.locs u.name)=sz:=⟨_,rfl⟩;rw [hpz] at HZ2 AC;rw [hsz] at AC LK SS;obtain ⟨pz0,pz1⟩:=pz;dsimp only at HZ2 AC;rw [k1'] at r0 x0 HTW;clear h2 k0' k1' hmem hix hfr hsl2 hpz hsz q0';have DT:Hid (Below wt.heap.size wt wt.drew):=hid (Below.refl _ _).drew;go_upto_region 12 with fail;rw [HTW.out];refine E_start (S:=(fun w'=>w'.cell? ⟨b.bb,4,none⟩=some (.map (some b.mb))∧w'.cell? ⟨wr.heap.size,2,none⟩=some (.string u.name)∧(Instr.lookup 177 (.map (some b.mb)) (.string u.name) false).run Tryz.prog w'=.ok (.int .i64 sz) w')) 12 (by kernel_rfl) (SS.out _ DT.out) (fun hHeld=>?_);refine E_tk 0 ?_
    try simp only [Act.put,eS1,eS2,eS3,eA1,eA2,eA3]
    refine E_tk 1 ?_
    try simp only [Act.put,eS1,eS2,eS3,eA1,eA2,eA3]
    refine E_tk 2 ?_
    try simp only [Act.put,eS1,eS2,eS3,eA1,eA2,eA3]
    refine E_tk 3 ?_
    try simp only [Act.put,eS1,eS2,eS3,eA1,eA2,eA3]
    refine E_tk 4 ?_
    try simp only [Act.put,eS1,eS2,eS3,eA1,eA2,eA3]
    refine E_tk 5 ?_
    try simp only [Act.put,eS1,eS2,eS3,eA1,eA2,eA3]
    refine E_tk 6 ?_
    try simp only [Act.put,eS1,eS2,eS3,eA1,eA2,eA3]
    refine E_tk 7 ?_
    try simp only [Act.put,eS1,eS2,eS3,eA1,eA2,eA3]
    refine E_tk 8 ?_
    try simp only [Act.put,eS1,eS2,eS3,eA1,eA2,eA3]
    refine E_ready (rs:=[9]) (by kernel_rfl) (by decide) ?_;refine AllE.cons (o:=_) rfl (fun K0 hK=>?_) AllE.nil
    try simp only [eA1,eA2,eA3]
    go_simp
    refine (AC.out _ DT.out).mono ?_;rintro e w1 ⟨rfl,b1⟩;go_wp2_with fail;have HB2:Hid (Below wt.heap.size wt w1):=hid (DT.out.trans b1);clear b1;refine hK.out _ _ (SS.out _ HB2.out) (fun hHeld=>?_);clear hK K0
    try simp only [Act.put,eS1,eS2,eS3,eA1,eA2,eA3]
    refine E_tk 10 ?_
    try simp only [Act.put,eS1,eS2,eS3,eA1,eA2,eA3]
    refine E_tk 11 ?_
    try simp only [Act.put,eS1,eS2,eS3,eA1,eA2,eA3]
    refine E_last (o:=_) (by kernel_rfl) rfl (by kernel_rfl) (fun K0 hK=>?_)
    try simp only [eA1,eA2,eA3]
    go_simp
    refine (EMT.out _ pz0 pz1 HB2.out).mono ?_;rintro e w2 ⟨rfl,iv2,X2,HC2,HS2⟩;go_wp2_with fail;refine hK.out _ _ ?_;clear hK K0;have e0:=HC2.out.cells.1;have e7:w2.cell? ⟨cb,7,none⟩=some (.int .i64 y.2.depth):=HC2.out.cells.2.2.1;have g7:=HC2.out.cells.2.2.2;go_wp2_with fail
    go_end0
    have hf:=FIN.out _ _ _ _ HC2.out ((Step.of_below HB2.out).trans HS2.out);rw [HZ2.out] at hf;exact hf
   rw [if_neg k1'] at h2;have q1':(u.kind == 1)=false:=by simpa using k1'
   by_cases k7':u.kind=7
   ·rw [if_pos k7'] at h2
    obtain ⟨f1,f2⟩:=HKU.out.2 k7';have hgf:(findZ K.E.p u.name).toNat ∈ funs K.E.p:=findZ_fun K.E.p u.name _ (by omega);obtain ⟨gg,hgg⟩:∃ gg:Nat,findZ K.E.p u.name=(gg:Int):=⟨_,(Int.toNat_of_nonneg f1).symm⟩;rw [hgg] at f2 hgf;rw [Int.toNat_natCast] at hgf;simp only [hgg,Int.toNat_natCast] at h2;have har7:=(ar_ok u HTB.out).2.2 k7';rw [HAR.out] at har7;obtain ⟨R,hR,hzR⟩:∃ R,CallTo K.E n scs sc k gg y.2 R∧{ R with depth:=t.depth+1 }=z.2:=by
     unfold CallTo
     by_cases hrp:replJ K.E scs y.2.items.length gg=true
     ·rw [if_pos hrp] at h2
      simp only [if_pos hrp]
      cases hx:cmiF K.E n (.lines (newSc K.E sc gg k :: scs) (gg+1) (enterJ K.E sc (newSc K.E sc gg k) k y.2).depth) { enterJ K.E sc (newSc K.E sc gg k) k y.2 with jumps:=[],firsts:=[],pend:=false } with
      | none=>rw [hx] at h2;cases h2
      | some p =>
       rw [hx] at h2;exact ⟨_,⟨p,rfl,rfl⟩,by rw [← Option.some.inj h2]⟩
     ·rw [if_neg hrp] at h2
      simp only [if_neg hrp];exact ⟨_,rfl,by rw [← Option.some.inj h2]⟩
    have HZR:=hid hzR;have hRl:R.items.length≤1000000:=by
     have e:R.items=z.2.items:=by rw [← hzR]
     rw [e];exact HZL.out.2
    obtain ⟨nu1,nu2,nu3,nu4⟩:=NUM.out;have CA:Hid (∀ W,Below wt.heap.size wt W→Calls Tryz.prog 230 #[.pointer (some ⟨b.bb,0,none⟩),.int .i64 (gg:Int)] W (EmD B cb K R ivq sc b jv k W)):=hid (fun W hb=>HCC.out scs sc rest k gg y.2 R W ivq Xq b jv hR (HBT.out.below HCT.out hb) hgf (by omega) (by omega) hRl (by omega) (HCT.out.below hb) (HWT.out.trans (hb.mono HWT.out.size)));have FF:Hid (∀ W,Below wt.heap.size wt W→Calls Tryz.prog 162 #[.slice pa PX.length pc,.string u.name] W fun e w'=>e=.returned (.int .i64 (gg:Int))∧Below W.heap.size W w'):=hid (fun W hb=>by
     have h:=i_findFn pa pc PX u.name W (by have:=HP.out.len;omega) (HP.out.read.below (HWT.out.trans (hb.mono HWT.out.size)));rw [HP.out.prog,hgg] at h;exact h)
    have SS:Hid (∀ W,Below wt.heap.size wt W→W.cell? ⟨b.bb,0,none⟩=some (.pointer (some ⟨cb,0,none⟩))∧W.cell? ⟨cb,0,none⟩=some (.slice pa PX.length pc)∧W.cell? ⟨wr.heap.size,2,none⟩=some (.string u.name)):=hid (fun W hb=>⟨(HCT.out.below hb).cells.1,by rw [← HP.out.pv];exact (blk (HCT.out.below hb).cc.row).1 0 _ rfl,(blk ((hb.block _ (blk HTR.out).2.2).trans HTR.out)).1 2 _ rfl⟩);rw [k7'] at r0 x0 HTW;clear h2 k0' k1' k7' q0' q1' f1 f2 hgf hgg har7 hR hzR hRl nu1 nu2 nu3 nu4;have DT:Hid (Below wt.heap.size wt wt.drew):=hid (Below.refl _ _).drew;go_upto_region 14 with fail;rw [HTW.out];refine E_start (S:=(fun w'=>w'.cell? ⟨b.bb,0,none⟩=some (.pointer (some ⟨cb,0,none⟩))∧w'.cell? ⟨cb,0,none⟩=some (.slice pa PX.length pc)∧w'.cell? ⟨wr.heap.size,2,none⟩=some (.string u.name))) 11 (by kernel_rfl) (SS.out _ DT.out) (fun hHeld=>?_);refine E_tk 0 ?_
    try simp only [Act.put,eS1,eS2,eS3,eA1,eA2,eA3]
    refine E_tk 1 ?_
    try simp only [Act.put,eS1,eS2,eS3,eA1,eA2,eA3]
    refine E_tk 2 ?_
    try simp only [Act.put,eS1,eS2,eS3,eA1,eA2,eA3]
    refine E_tk 3 ?_
    try simp only [Act.put,eS1,eS2,eS3,eA1,eA2,eA3]
    refine E_tk 4 ?_
    try simp only [Act.put,eS1,eS2,eS3,eA1,eA2,eA3]
    refine E_tk 5 ?_
    try simp only [Act.put,eS1,eS2,eS3,eA1,eA2,eA3]
    refine E_tk 6 ?_
    try simp only [Act.put,eS1,eS2,eS3,eA1,eA2,eA3]
    refine E_tk 7 ?_
    try simp only [Act.put,eS1,eS2,eS3,eA1,eA2,eA3]
    refine E_tk 8 ?_
    try simp only [Act.put,eS1,eS2,eS3,eA1,eA2,eA3]
    refine E_tk 9 ?_
    try simp only [Act.put,eS1,eS2,eS3,eA1,eA2,eA3]
    refine E_ready (rs:=[10]) (by kernel_rfl) (by decide) ?_;refine AllE.cons (o:=_) rfl (fun K0 hK=>?_) AllE.nil
    try simp only [eA1,eA2,eA3]
    go_simp
    refine (FF.out _ DT.out).mono ?_;rintro e w1 ⟨rfl,b1⟩;go_wp2_with fail;have HB2:Hid (Below wt.heap.size wt w1):=hid (DT.out.trans b1);clear b1;refine hK.out _ _ (SS.out _ HB2.out) (fun hHeld=>?_);clear hK K0
    try simp only [Act.put,eS1,eS2,eS3,eA1,eA2,eA3]
    refine E_last (o:=_) (by kernel_rfl) rfl (by kernel_rfl) (fun K0 hK=>?_)
    try simp only [eA1,eA2,eA3]
    go_simp
    refine (CA.out _ HB2.out).mono ?_;rintro e w2 ⟨rfl,dd2,iv2,X2,HC2,HS2⟩;go_wp2_with fail;refine hK.out _ _ ?_;clear hK K0;obtain ⟨iv3,dd,X3,HC3,HS3⟩:∃ iv3 dd X3,Hid (CiAt jT Tryz.prog B cb w2 K { R with depth:=dd } iv3 X3 sc b jv k)∧Hid (Step cb (ME ivq b.bb) (ME iv3 b.bb) w1 w2):=⟨iv2,dd2,X2,HC2,HS2⟩;have e0:=HC3.out.cells.1;have e7:w2.cell? ⟨cb,7,none⟩=some (.int .i64 dd):=HC3.out.cells.2.2.1;have g7:=HC3.out.cells.2.2.2;go_wp2_with fail
    go_end0
    have hf:=FIN.out _ _ _ _ HC3.out ((Step.of_below HB2.out).trans HS3.out);rw [← HZR.out];exact hf
   rw [if_neg k7'] at h2;have q7':(u.kind == 7)=false:=by simpa using k7'
   have HZ2:Hid ({ emitJ K.E y.2 (5+u.kind - 2) 0 k sc.chain with depth:=t.depth+1 }=z.2):=hid (by rw [← Option.some.inj h2]);have HE:=hid (EMT.out wt (5+u.kind - 2) 0 (Below.refl _ _));have htk2:=HTK.out;have v1:IntKind.i64.wrap (5+u.kind)=5+u.kind:=IntWalk.i64_in _ (by omega);have v2:IntKind.i64.wrap (5+u.kind - 2)=5+u.kind - 2:=IntWalk.i64_in _ (by omega);clear h2 k0' k1' k7' htk2;go_wp2_with fail;rw [HTW.out];refine HE.out.mono ?_;rintro e w2 ⟨rfl,iv2,X2,HC2,HS2⟩;have e0:=HC2.out.cells.1;have e7:w2.cell? ⟨cb,7,none⟩=some (.int .i64 y.2.depth):=HC2.out.cells.2.2.1;have g7:=HC2.out.cells.2.2.2;go_wp2_with fail
   go_end0
   have hf:=FIN.out _ _ _ _ HC2.out HS2.out;rw [HZ2.out] at hf;exact hf
end Go.Proofs.YtcflojdkaddemaaGreatDoor
