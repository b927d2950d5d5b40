/- Parts of the proof. -/
import Derived.Test.YtcflojdkaddemaaGreatDoorI31
import Derived.Deep.WholeRow
import Derived.ChangeKeysEq
namespace Go.Proofs.YtcflojdkaddemaaGreatDoor.fnItems
open Go.RowKit Go.Lib
theorem repl_all (inl:Nat):IReplAll inl:=fun B cb K pa pc PX fa fc wb hP hBw _ n hB=>i_replace B cb K pa pc PX fa fc wb hP hBw n hB
def ReadI7 (w:World) (a:Option Addr) (L:List ItL):Prop :=
 ∀ j (h:j<L.length),∃ g xa xc,a=some ⟨g,0,none⟩∧g<w.heap.size∧w.cell? ⟨g,j*7,none⟩=some (.int .i64 L[j].code)∧w.cell? ⟨g,j*7+1,none⟩=some (.int .i64 L[j].arg)∧w.cell? ⟨g,j*7+2,none⟩=some (.int .i64 (L[j].line:Int))∧w.cell? ⟨g,j*7+3,none⟩=some (.bool L[j].start)∧w.cell? ⟨g,j*7+4,none⟩=some (.slice xa L[j].chain.length xc)∧w.cell? ⟨g,j*7+5,none⟩=some (.int .i64 L[j].depth)∧w.cell? ⟨g,j*7+6,none⟩=some (.bool L[j].ent)
theorem readI7_of {B c:Nat} {w:World} {a:Option Addr} {X:List ItW} {L:List ItL} (h:w.ownsRow B 40 7 (.slice a X.length c) X.length (itV X)) (hL:X.map (·.it)=L) (hm:MadeI 3 B w (chL X)):ReadI7 w a L:=by
 subst hL;intro j hj;have hj':j<X.length:=by simpa using hj
 rcases h.2 with ⟨he,h0⟩|⟨g,cap,cur,he,hB,hg,_⟩
 ·omega
 ·have ha:a=some ⟨g,0,none⟩:=by injection he
  subst ha;have hlt:g<w.heap.size:=by
   rcases Nat.lt_or_ge g w.heap.size with h|h
   ·exact h
   ·rw [Array.getElem?_eq_none h] at hg;cases hg
  have hch:=hm.1 ⟨natI X[j].it.chain,X[j].v⟩ (mem_chL.2 ⟨X[j],List.getElem_mem hj',rfl⟩);obtain ⟨xa,xc,e⟩:=own_sh hch;have e':X[j].v=.slice xa X[j].it.chain.length xc:=by rw [← natI_length X[j].it.chain];exact e
  have hl:(itV X).length=X.length*7:=itV_length X;have key:∀ i,i<7→w.cell? ⟨g,j*7+i,none⟩=(itC X[j])[i]?:=fun i hi=>by rw [h.cellAt _ (by omega)];exact itV_at X j hj' i hi
  simp only [List.getElem_map];exact ⟨g,xa,xc,rfl,hlt,key 0 (by omega),key 1 (by omega),key 2 (by omega),key 3 (by omega),by rw [key 4 (by omega),← e'];rfl,key 5 (by omega),key 6 (by omega)⟩
theorem l_has (a:Option Addr) (c:Nat) (l:List Int) (k:Int) (w:World) (hr:ReadI w a l) (hl:l.length≤1048576) (hm:k ∈ l) :
  Calls Tryz.prog 15 #[.slice a l.length c,.int .i64 k] w fun e w'=>e=.returned (.bool true)∧Below w.heap.size w w':=by
 obtain ⟨n0,hn0,he0⟩:=List.mem_iff_getElem.1 hm;have HR:=hid hr;clear hr hm
 go_enter Tryz.func15,Tryz.ntmps15
 go_wp2_with fail
 go_loopw [5] (fun i wr=>∃ q:Nat,q≤n0∧i=.int .i64 (q:Int)∧Hid (Below w.heap.size w wr)) (fun i _=>n0 - (RowKit.intOf i).toNat)
 case atStart=>exact ⟨0,Nat.zero_le _,rfl,hid (Below.refl _ _)⟩
 case round =>
  obtain ⟨q,hq,rfl,HB⟩:=hrel;have k0:(0:Int)≤(q:Int):=by omega
  have k1:(q:Int)<(l.length:Int):=by omega
  obtain ⟨g,rfl,hg,c0⟩:=(HR.out.below HB.out) q (by omega)
  by_cases he:l[q]'(by omega)=k
  ·rw [he] at c0
   clear he he0;go_wp2;go_ret;exact ⟨rfl,HB.out⟩
  ·have hq2:q<n0:=by
    rcases Nat.lt_or_ge q n0 with h|h
    ·exact h
    ·obtain rfl:q=n0:=by omega
     exact absurd he0 he
   generalize l[q]=y at *;have hd:(y == k)=false:=by simpa using he
   clear he0;go_wp2;go_roundw
   case rel=>exact ⟨q+1,by omega,by go_num,HB⟩
   case measure=>simp [RowKit.intOf] <;> omega
end Go.Proofs.YtcflojdkaddemaaGreatDoor.fnItems

namespace Go.Proofs.YtcflojdkaddemaaGreatDoor
open Go.RowKit Go.Lib
open Go.Proofs.YtcflojdkaddemaaGreatDoor.fnItems (repl_all ReadI7 readI7_of)
theorem it7_of {w:World} {a:Option Addr} {L:List ItL} (h:ReadI7 w a L):ReadIt7 w a L:=fun j hj=>by
 obtain ⟨g,xa,xc,e,hg,c0,c1,c2,c3,c4,c5,c6⟩:=h j hj;exact ⟨g,xa,_,xc,e,hg,c0,c1,c2,c3,c4,c5,c6⟩
theorem plm_len {o:Nat} {L:List ItL} {Y:List PlW} (hY:Y.map (fun x=>(x.off,x.it))=(plcF o L 0 L).map fun y=>((y.1:Int),y.2)):Y.length=L.length:=by
 have h:=congrArg List.length hY;rw [List.length_map,List.length_map,plcF_idx,List.length_mapIdx] at h;exact h
theorem siz_of {p:List PLine} {g:Nat} {L:List ItL} (h:FnIt p g L) (k:Nat) (hk:k<L.length):sizZ L[k].code=(sizX L[k]:Int):=by
 have hc:=(insB_parts _ (pl_ins h 0 k hk)).1;have h0:0≤L[k].code:=hc.1;have h1:L[k].code≤17:=hc.2;unfold sizX sizZ codeB;rw [decide_eq_true h0,decide_eq_true h1,if_pos (by decide)];omega
theorem plm_last {p:List PLine} {g:Nat} {L:List ItL} (h:FnIt p g L) (o:Nat) {Y:List PlW} (hY:Y.map (fun x=>(x.off,x.it))=(plcF o L 0 L).map fun y=>((y.1:Int),y.2)) (k:Nat) (hk:k+1=L.length) (hy:k<Y.length) :
  Y[k].off+sizZ Y[k].it.code=((o+(codF o L).length:Nat):Int)∧0≤Y[k].off∧Y[k].off≤(o:Int)+15000:=by
 have hkl:k<L.length:=by omega
 have e:(Y.map (fun x=>(x.off,x.it)))[k]?=some ((offN o L k:Int),{ L[k] with arg:=plA o L k L[k] }):=by
  rw [hY,List.getElem?_map,plcF_idx,List.getElem?_mapIdx,List.getElem?_eq_getElem hkl]
  simp
 rw [List.getElem?_map,List.getElem?_eq_getElem hy] at e;have e2:=Option.some.inj e;have e3:Y[k].off=(offN o L k:Int):=congrArg Prod.fst e2;have e4:Y[k].it={ L[k] with arg:=plA o L k L[k] }:=congrArg Prod.snd e2;have hs:=siz_of h k hkl;have h1:=offN_succ o L k hkl;have h2:=codF_len o L;have h3:=offN_le o L k (by omega);have hn:=h.nn;have e5:sizZ Y[k].it.code=sizZ L[k].code:=by rw [e4]
 rw [hk] at h1;rw [e3,e5];omega
theorem plc_cells (x:PlW):(plC x)[0]?=some (.int .i64 x.off)∧(plC x)[1]?=some (.int .i64 x.it.code)∧(plC x)[2]?=some (.int .i64 x.it.arg)∧(plC x)[3]?=some (.int .i64 (x.it.line:Int))∧(plC x)[4]?=some (.bool x.it.start)∧(plC x)[5]?=some (.slice x.a x.n x.c)∧(plC x)[6]?=some (.int .i64 x.it.depth)∧(plC x)[7]?=some (.bool x.it.ent):=⟨rfl,rfl,rfl,rfl,rfl,rfl,rfl,rfl⟩
theorem plsV_one' (X:List PlW):∀ u ∈ plsV X,u.oneCell'=true:=by
 intro u hu;unfold plsV at hu;obtain ⟨x,_,hx⟩:=List.mem_flatMap.1 hu;simp only [plC,List.mem_cons,List.not_mem_nil,or_false] at hx
 rcases hx with h|h|h|h|h|h|h|h <;> (subst h;rfl)
theorem row_some {B T n s:Nat} {w:World} {v:Value} {xs:List Value} (h:w.ownsRow B T s v n xs) (hn:0<n):∃ g c,v=.slice (some ⟨g,0,none⟩) n c∧g<w.heap.size∧∀ j,j<xs.length→w.cell? ⟨g,j,none⟩=xs[j]?:=by
 rcases h.2 with ⟨e,h0⟩|⟨g,cap,cur,e,hB,hg,_⟩
 ·omega
 ·have hlt:g<w.heap.size:=by
   rcases Nat.lt_or_ge g w.heap.size with h|h
   ·exact h
   ·rw [Array.getElem?_eq_none h] at hg;cases hg
  subst e;exact ⟨g,cap,rfl,hlt,fun j hj=>h.cellAt j (by have:=h.1;omega)⟩
def PlsRes (T B:Nat) (M:List (Int×ItL)) (w:World) (e:Ending) (w':World):Prop :=
 ∃ v X,e=.returned v∧w'.ownsRow B T 8 v X.length (plsV X)∧X.map (fun x=>(x.off,x.it))=M∧Below w.heap.size w w'
set_option maxRecDepth 100000 in
set_option maxHeartbeats 8000000 in
theorem i_placesOf (inl:Nat) (pa:Option Addr) (pc:Nat) (PX:List LnL) (hl:PX.length≤1048576) (hcap:PX.length≤pc) (w:World) (hr:ReadL 9 147 w pa PX) (hz:SzAl PX) (hsh:Shapes w) (ho:OkI (plL PX)) (fm:Int) (hfm:0≤fm∧fm≤63) (hinl:inl≤3) (fo sp:Bool) (im:Nat) (him:im≤1) (LF:Nat→List ItL)
  (hLF:∀ f (hf:f<(funs (plL PX)).length),CompTo (if fo=true then foldP (plL PX) else plL PX) (frB fm f) inl (funs (plL PX))[f] (LF f)) (hFI:∀ f (hf:f<(funs (plL PX)).length),FnIt (plL PX) (funs (plL PX))[f] (LF f)) :
  Calls Tryz.prog 13 #[.slice pa PX.length pc,.agg #[.int .i64 fm,.int .i64 (inl:Int),.bool fo,.bool sp],.int .i64 (im:Int)] w (PlsRes 42 w.heap.size ((layP 0 (fnsIm (plL PX) sp im LF (funs (plL PX)).length)).map (fun y=>((y.1:Int),y.2))) w):=by
 have hbb:bldB fm (inl:Int)=true:=by unfold bldB;simp;omega
 obtain ⟨W0,hW0⟩:∃ W,w.alloc (.cells #[.int .i64 fm,.int .i64 (inl:Int),.bool fo,.bool sp] 26)=W:=⟨_,rfl⟩;have HB0:Hid (Below w.heap.size w W0):=Lib.hid (hW0▸(Below.refl _ _).alloc (Nat.le_refl _) _);have HP0:Hid (W0.heap[w.heap.size]?=some (.cells #[.int .i64 fm,.int .i64 (inl:Int),.bool fo,.bool sp] 26 (0,0))):=Lib.hid (by rw [← hW0];exact heap_alloc_new w _);have HZ0:Hid (W0.heap.size=w.heap.size+1):=Lib.hid (by rw [← hW0];simp);have HW0:=Lib.hid hW0;have HC:Hid (∀ W,Below (w.heap.size+1) W0 W→(W.cell? ⟨w.heap.size,0,none⟩=some (.int .i64 fm)∧W.cell? ⟨w.heap.size,1,none⟩=some (.int .i64 (inl:Int))∧W.cell? ⟨w.heap.size,2,none⟩=some (.bool fo)∧W.cell? ⟨w.heap.size,3,none⟩=some (.bool sp))∧Below w.heap.size w W):=Lib.hid (fun W hb=>⟨cells4 ((hb.block w.heap.size (by omega)).trans HP0.out),HB0.out.trans (hb.mono (by omega))⟩);have HR:=Lib.hid hr;have HSH:=Lib.hid hsh;have POK:=Lib.hid (fun W (hb:Below w.heap.size w W)=>i_progOkB pa pc PX W hl hcap (HR.out.below hb) hz (HSH.out.on hb));rw [(pokB_iff _).2 ho] at POK;have BOK:=Lib.hid (fun W=>i_buildOk fm (inl:Int) fo sp W);rw [hbb] at BOK;have FLN:=Lib.hid (fun W (hb:Below w.heap.size w W)=>i_funLines pa pc PX W hl (HR.out.below hb));have CO:=Lib.hid (fun W (hb:Below w.heap.size w W) f (hf:f<(funs (plL PX)).length)=>i_compile (repl_all inl) pa pc PX hl hcap W (HR.out.below hb) hz (HSH.out.on hb) ho f hf _ rfl fm hfm hinl fo sp (LF f) (hLF f hf));have PI:=Lib.hid (fun W (hb:Below w.heap.size w W) f (hf:f<(funs (plL PX)).length) a cap o h1 h2=>i_placeItems pa pc PX _ (LF f) a cap o W hl (HR.out.below hb) h1 (hFI f hf) h2);have FI:=Lib.hid hFI;have IMO:=Lib.hid (fun W f hf=>i_imageOf fm (inl:Int) fo sp f W hf);have hn6:(funs (plL PX)).length≤6:=ho.2.1.1;have hfl:(funI (plL PX)).length=(funs (plL PX)).length:=funI_length (plL PX);obtain ⟨i0,hi,hz0,hz1,hz2⟩:=info_parts infoPl;obtain ⟨n,hn⟩:∃ n,(funs (plL PX)).length=n:=⟨_,rfl⟩;obtain ⟨p,hp⟩:∃ p,plL PX=p:=⟨_,rfl⟩;have LAYS:Hid (∀ q,q≤n→(∀ x ∈ fnsIm p sp im LF q,FnIt p x.1 x.2)∧(layC 0 (fnsIm p sp im LF q)).length≤90000):=Lib.hid (fun q hq=>by
  have h1:=fnsIm_mem (p:=plL PX) (sp:=sp) (im:=im) (LF:=LF) (q:=q) (by omega) hFI;rw [hp] at h1;refine ⟨h1,?_⟩;have h2:=layC_small (fnsIm p sp im LF q) 0 h1;have h3:=fnsIm_len p sp im LF q;omega)
 have SUCC:=Lib.hid (fun q=>fnsIm_succ p sp im LF q);have GET:Hid (∀ q (hq:q<n),((funs p)[q]?).getD 0=((funs p)[q]?).getD 0∧FnIt p (((funs p)[q]?).getD 0) (LF q)):=Lib.hid (fun q hq=>⟨rfl,by
  have h:=hFI q (by omega);rw [← hp,List.getElem?_eq_getElem (by omega)];exact h⟩)
 rw [hn] at CO PI hn6 hfl ⊢;rw [hp] at FI ⊢;obtain ⟨A,hA⟩:∃ A,fnsIm p sp im LF=A:=⟨_,rfl⟩;rw [hA] at LAYS SUCC ⊢;have A0:Hid (A 0=[]):=Lib.hid (by rw [← hA];rfl);have hn6':(n:Int)≤6:=by omega
 clear hr hsh hz hbb hW0 hfm hLF hFI hn hp hA ho
 go_enter Tryz.func13,Tryz.ntmps13
 go_upto_region 1 with fail;rw [HW0.out];obtain ⟨⟨e0,e1,e2,e3⟩,_⟩:=HC.out W0 (Below.refl _ _);go_wp2_with fail;refine (POK.out _ HB0.out).mono ?_;rintro e w1 ⟨rfl,b1⟩;have B1:Hid (Below (w.heap.size+1) W0 w1):=Lib.hid (b1.mono (by have:=HZ0.out;omega));clear b1 e0 e1 e2 e3;obtain ⟨⟨e0,e1,e2,e3⟩,HBW⟩:=HC.out w1 B1.out;have z1:w.heap.size+1≤w1.heap.size:=by have h:=B1.out.size;have:=HZ0.out;omega
 have HBW:=Lib.hid HBW;go_wp2_with fail;refine (BOK.out _).mono ?_;rintro e w2 ⟨rfl,b2⟩;have B2:Hid (Below (w.heap.size+1) W0 w2):=Lib.hid (B1.out.trans (b2.mono (by omega)));have z2:w.heap.size+1≤w2.heap.size:=by have:=b2.size;omega
 clear b2 e0 e1 e2 e3 HBW;have HBW:=Lib.hid (HC.out w2 B2.out).2;have im0:¬ (im:Int)<0:=by omega
 have im1:¬ (1:Int)<(im:Int):=by omega
 go_wp2_with fail;refine (FLN.out _ HBW.out).mono ?_;rintro e w3 ⟨vf,rfl,HOF,b3⟩;obtain ⟨fa,fc,rfl⟩:=owns_shape HOF;have B3:Hid (Below (w.heap.size+1) W0 w3):=Lib.hid (B2.out.trans (b3.mono (by omega)));have z3:w.heap.size+1≤w3.heap.size:=by have:=b3.size;omega
 rw [hfl];clear b3 HOF HBW hfl POK BOK FLN;go_wp2_with fail
 go_loopw [7,8,9,29] (fun v off _ i wr=>∃ (q:Nat) (X:List PlW),q≤n∧i=.int .i64 (q:Int)∧off=.int .i64 ((layC 0 (A q)).length:Int)∧X.length≤3000*q∧Hid (X.map (fun x=>(x.off,x.it))=(layP 0 (A q)).map (fun y=>((y.1:Int),y.2)))∧Hid (wr.ownsRow (w.heap.size+1) 42 8 v X.length (plsV X))∧Hid (Below (w.heap.size+1) W0 wr)) (fun _ _ _ i _=>n - (RowKit.intOf i).toNat)
 case atStart=>exact ⟨0,[],Nat.zero_le _,rfl,by rw [A0.out];rfl,by simp,Lib.hid (by rw [A0.out];rfl),Lib.hid ⟨rfl,.inl ⟨rfl,rfl⟩⟩,B3⟩
 case round =>
  obtain ⟨q,X,hq,rfl,rfl,hXl,HM,HO,HB⟩:=hrel;obtain ⟨⟨e0,e1,e2,e3⟩,HBW⟩:=HC.out wr HB.out;have HBW:=Lib.hid HBW;have hzr:w.heap.size+1≤wr.heap.size:=by have h:=HB.out.size;have:=HZ0.out;omega
  by_cases hlt:q<n
  ·have k0:(0:Int)≤(q:Int):=by omega
   have k1:(q:Int)<(n:Int):=by omega
   have hSU:=SUCC.out q
   cases hin:inIm sp im q with
   | false =>
    have HN:Hid (A (q+1)=A q):=Lib.hid (by rw [hSU,hin];simp);have hne:((((if sp=true then q % 2 else 0:Nat):Int)) != (im:Int))=true:=bne_iff_ne.2 (fun e=>by
     unfold inIm at hin;have h:=of_decide_eq_false hin;exact h (by omega))
    obtain ⟨k,hk⟩:∃ k:Nat,(if sp=true then q % 2 else 0)=k:=⟨_,rfl⟩;rw [hk] at hne;have IM:=Lib.hid (IMO.out wr q (by omega));rw [hk] at IM;clear hSU hin hk;go_wp2_with fail;refine IM.out.mono ?_;rintro e w4 ⟨rfl,b4⟩;have B4:Hid (Below (w.heap.size+1) W0 w4):=Lib.hid (HB.out.trans (b4.mono hzr));have HO4:=Lib.hid (owns3_below HO.out b4);clear b4 e0 e1 e2 e3;go_wp2;go_roundw
    case rel=>exact ⟨q+1,X,by omega,by go_num,by rw [HN.out],by omega,Lib.hid (by rw [HN.out];exact HM.out),HO4,B4⟩
    case measure=>simp [RowKit.intOf];omega
   | true =>
    obtain ⟨f,hf⟩:∃ f,(((funs p)[q]?).getD 0,LF q)=f:=⟨_,rfl⟩;have HN:Hid (A (q+1)=A q++[f]):=Lib.hid (by rw [hSU,hin,← hf];simp);have HFI:Hid (FnIt p f.1 f.2):=Lib.hid (by rw [← hf];exact (GET.out q hlt).2);have hf2:f.2=LF q:=by rw [← hf]
    have hne:((((if sp=true then q % 2 else 0:Nat):Int)) != (im:Int))=false:=by
     unfold inIm at hin;have h:=of_decide_eq_true hin;rw [h];simp
    obtain ⟨k,hk⟩:∃ k:Nat,(if sp=true then q % 2 else 0)=k:=⟨_,rfl⟩;rw [hk] at hne;have IM:=Lib.hid (IMO.out wr q (by omega));rw [hk] at IM;have C2:=Lib.hid (fun W hb=>CO.out W hb q hlt);have P2:=Lib.hid (fun W hb=>PI.out W hb q hlt);rw [← hf2] at C2 P2;have HLA:=LAYS.out (q+1) (by omega);rw [HN.out] at HLA;obtain ⟨o,hoo⟩:∃ o,(layC 0 (A q)).length=o:=⟨_,rfl⟩;have HOO:=Lib.hid hoo;have ho1:o≤90000:=by rw [← hoo];exact (LAYS.out q hq).2
    have HCN:Hid ((layC 0 (A (q+1))).length=o+(codF o f.2).length):=Lib.hid (by rw [HN.out,layC_snoc,List.length_append,Nat.zero_add,hoo]);have HPN:Hid (layP 0 (A (q+1))=layP 0 (A q)++plcF o f.2 0 f.2):=Lib.hid (by rw [HN.out,layP_snoc,Nat.zero_add,hoo]);rw [hoo];obtain ⟨L,hL⟩:∃ L,f.2=L:=⟨_,rfl⟩;rw [hL] at C2 P2 HCN HPN HFI;obtain ⟨g0,hg0⟩:∃ g,f.1=g:=⟨_,rfl⟩;rw [hg0] at HFI;have hL3:=HFI.out.n3;have hL4:=HFI.out.nn;clear hSU hin hk hf hf2 HLA hoo hL hg0 HN;go_wp2_with fail;refine IM.out.mono ?_;rintro e w4 ⟨rfl,b4⟩;have B4:Hid (Below (w.heap.size+1) W0 w4):=Lib.hid (HB.out.trans (b4.mono hzr));have HO4:=Lib.hid (owns3_below HO.out b4);have z4:w.heap.size+1≤w4.heap.size:=by have:=b4.size;omega
    clear b4 e0 e1 e2 e3 HBW;obtain ⟨⟨e0,e1,e2,e3⟩,HBW⟩:=HC.out w4 B4.out;have HBW:=Lib.hid HBW;go_wp2_with fail;refine (C2.out _ HBW.out).mono ?_;rintro e w5 ⟨v5,X5,rfl,O5,hX5,M5,b5⟩;have B5:Hid (Below (w.heap.size+1) W0 w5):=Lib.hid (B4.out.trans (b5.out.mono (by omega)));have HO5:=Lib.hid (owns3_below HO4.out b5.out);have z5:w.heap.size+1≤w5.heap.size:=by have:=b5.out.size;omega
    obtain ⟨xa,xc,rfl⟩:=owns3_shape O5.out;have R7:=Lib.hid (it7_of (readI7_of O5.out hX5 M5.out));have hx5:X5.length=L.length:=by rw [← hX5];simp
    rw [hx5];clear b5 e0 e1 e2 e3 HBW O5 hX5 M5 hx5 HO4;have HBW:=Lib.hid (HC.out w5 B5.out).2;have P3:=Lib.hid (P2.out w5 HBW.out xa xc o R7.out (by omega));clear P2 C2;go_wp2_with fail;refine P3.out.mono ?_;rintro e w6 ⟨v6,X6,rfl,O6,hX6,b6⟩;have B6:Hid (Below (w.heap.size+1) W0 w6):=Lib.hid (B5.out.trans (b6.mono z5));have hown6:=owns3_below HO5.out b6;have z6:w.heap.size+1≤w6.heap.size:=by have:=b6.size;omega
    have HX6:=Lib.hid hX6;have hx6:X6.length=L.length:=plm_len hX6;obtain ⟨g6,c6,rfl,hg6,hce6⟩:=row_some O6 (by omega);have HCE6:=Lib.hid hce6;have h63:X.length+X6.length≤maxLen:=by unfold maxLen;omega
    have hby:(X.length+X6.length)*80≤140737488355328:=by omega
    have hl6:(plsV X6).length=X6.length*8:=plsV_length X6;have HL6:=Lib.hid hx6;clear b6 HBW R7 P3 O6 hX6 hce6 HO5 hx6;go_wp2_with (at_builtin;refine wpList_append_own _ rfl _ _ 34 rfl (w.heap.size+1) 42 i0 _ 8 80 Tryz.underlying34 hi hz0 hz1 hz2 rfl (by decide) _ _ _ rfl hown6 ⟨g6,0,none⟩ X6.length c6 (plsV X6) rfl hl6 ?c1 ?c2 h63 hby ?c5 ?_)
    case c1 =>
     intro j u hu;have hj:j<(plsV X6).length:=(List.getElem?_eq_some_iff.1 hu).1;have hadd:(⟨g6,0,none⟩:Addr).add j=⟨g6,j,none⟩:=by unfold Addr.add;split <;> simp_all
     rw [hadd,HCE6.out j hj];exact hu
    case c2=>exact plsV_one' X6
    case c5=>exact z6
    intro v7 w7 hown7 hgrow _;have hown8:w7.ownsRow (w.heap.size+1) 42 8 v7 (X++X6).length (plsV (X++X6)):=by rw [plsV_append,List.length_append];exact hown7
    obtain ⟨m,hm⟩:∃ m,(X++X6).length=m+1:=⟨(X++X6).length - 1,by have:=HL6.out;rw [List.length_append];omega⟩;have HO8:=Lib.hid hown8;obtain ⟨g7,c7,rfl,hg7,hce7⟩:=row_some hown8 (by omega);have B7:Hid (Below (w.heap.size+1) W0 w7):=Lib.hid (B6.out.grown hgrow z6 (fun k hk=>(hown6.lt k hk).1));have z7:w.heap.size+1≤w7.heap.size:=by have h:=B7.out.size;have:=HZ0.out;omega
    have hmX:m - X.length+1=L.length:=by have:=HL6.out;rw [List.length_append] at hm;omega
    have hm6:m - X.length<X6.length:=by have:=HL6.out;omega
    have hmx:m<(X++X6).length:=by omega
    have hLast:(X++X6)[m]=X6[m - X.length]:=by
     rw [List.getElem_append_right (by have:=HL6.out;rw [List.length_append] at hm;omega)]
    obtain ⟨la1,la2,la3⟩:=plm_last HFI.out o HX6.out (m - X.length) hmX hm6;rw [← hLast] at la1 la2 la3;have CE:∀ i,i<8→w7.cell? ⟨g7,m*8+i,none⟩=(plC (X++X6)[m])[i]?:=fun i hi=>by
     rw [hce7 _ (by rw [plsV_length];omega)];exact plsV_at _ m hmx i hi
    obtain ⟨d0,d1,d2,d3,d4,d5,d6,d7⟩:=plc_cells (X++X6)[m];have c0:=(CE 0 (by omega)).trans d0;have c1:=(CE 1 (by omega)).trans d1;have c2:=(CE 2 (by omega)).trans d2;have c3:=(CE 3 (by omega)).trans d3;have c4:=(CE 4 (by omega)).trans d4;have c5:=(CE 5 (by omega)).trans d5;have c6:=(CE 6 (by omega)).trans d6;have c7:=(CE 7 (by omega)).trans d7;rw [Nat.add_zero] at c0;have HMN:Hid ((X++X6).map (fun x=>(x.off,x.it))=(layP 0 (A (q+1))).map (fun y=>((y.1:Int),y.2))):=Lib.hid (by rw [HPN.out,List.map_append,List.map_append,HM.out,HX6.out]);have hXN:(X++X6).length≤3000*(q+1):=by have:=HL6.out;rw [List.length_append];omega
    generalize X++X6=X' at *;generalize X'[m]=y at *;obtain ⟨yo,yit,ya,yn,yc⟩:=y;dsimp only at la1 la2 la3;have hmb:m≤20000:=by omega
    have EP:=Lib.hid (i_endP yo yit ya yn yc w7 la2 (by omega));obtain ⟨yc0,yc1,yc2,yc3,yc4,yc5,yc6⟩:=yit;dsimp only at c0 c1 c2 c3 c4 c5 c6 c7 la1;unfold plV at EP;dsimp only at EP;rw [la1,← HCN.out] at EP;have HXN:=Lib.hid hXN;have HMM:=Lib.hid hm;rw [hm];have m0:(0:Int)≤(m:Int):=by omega
    have hwm:wrap64 (m:Int)=(m:Int):=by unfold wrap64;omega
    have m1:(m:Int)<((m+1:Nat):Int):=by omega
    clear CE d0 d1 d2 d3 d4 d5 d6 d7 hce7 hg7 hown7 hown8 hgrow hown6 HM HX6 HL6 HPN hLast la1 la2 la3 hmX hm6 hmx hXN HCE6 hg6 hl6 h63 hby hm;go_wp2_with fail;refine EP.out.mono ?_;rintro e w8 ⟨rfl,b8⟩;have B8:Hid (Below (w.heap.size+1) W0 w8):=Lib.hid (B7.out.trans (b8.mono z7));have HO9:=Lib.hid (owns3_below HO8.out b8);rw [HMM.out] at HO9;clear b8 c0 c1 c2 c3 c4 c5 c6 c7 HO8;go_wp2;go_roundw
    case rel=>exact ⟨q+1,X',by omega,by go_num,rfl,HXN.out,HMN,by rw [HMM.out];exact HO9,B8⟩
    case measure=>simp [RowKit.intOf];omega
  ·have hqn:q=n:=by omega
   subst hqn;have k1:¬ (q:Int)<(q:Int):=by omega
   go_wp2;go_ret;exact ⟨_,X,rfl,owns_lo HO.out (by omega),HM.out,HBW.out⟩
end Go.Proofs.YtcflojdkaddemaaGreatDoor

namespace Go.Proofs.YtcflojdkaddemaaGreatDoor
open Go.RowKit Go.Lib
def arrC (l:List UInt8):Array Value:=(byteCells l).toArray
def fillB (a:Int) (k:Nat):List UInt8:=argB a k++List.replicate (8 - k) 0
theorem fillB_length (a:Int) (k:Nat) (h:k≤8):(fillB a k).length=8:=by unfold fillB;rw [List.length_append,argB_length,List.length_replicate];omega
theorem fillB_eight (a:Int):fillB a 8=argB a 8:=by unfold fillB;simp
theorem fillB_set (a:Int) (k:Nat) (h:k<8):(arrC (fillB a k)).setIfInBounds k (.int .u8 ((bytA a k).toNat:Int))=arrC (fillB a (k+1)):=by
 have e1:fillB a k=argB a k++0 :: List.replicate (8 - (k+1)) 0:=by
  unfold fillB;rw [show 8 - k=(8 - (k+1))+1 from by omega,List.replicate_succ]
 have e2:fillB a (k+1)=argB a k++bytA a k :: List.replicate (8 - (k+1)) 0:=by
  unfold fillB;rw [argB_snoc,List.append_assoc];rfl
 unfold arrC;rw [e1,e2,byteCells_append,byteCells_append];apply Array.toList_inj.1;simp only [Array.toList_setIfInBounds];have hl:(byteCells (argB a k)).length=k:=by simp [byteCells,argB_length]
 rw [List.set_append,if_neg (by omega),hl,Nat.sub_self];rfl
theorem arrC_at (l:List UInt8) (k:Nat) (h:k<l.length):(arrC l)[k]?=some (.int .u8 (l[k].toNat:Int)):=by
 simp [arrC,byteCells,List.getElem?_eq_getElem h]
theorem shr_byte (a:Int) (k:Nat) (_h:k<8):a / 2 ^ (8*k) % 256=((bytA a k).toNat:Int):=by
 have e:(2:Int) ^ (8*k)=((256 ^ k:Nat):Int):=by rw [Int.pow_mul,Int.natCast_pow];rfl
 rw [e];unfold bytA;have h1:=Int.emod_nonneg (a / ((256 ^ k:Nat):Int)) (show (256:Int)≠0 by decide);have h2:=Int.emod_lt_of_pos (a / ((256 ^ k:Nat):Int)) (show (0:Int)<256 by decide);rw [byte_of _ h1 h2]
theorem arr8 (l:List UInt8) (h:l.length=8):∃ x0 x1 x2 x3 x4 x5 x6 x7:Int,arrC l=#[.int .u8 x0,.int .u8 x1,.int .u8 x2,.int .u8 x3,.int .u8 x4,.int .u8 x5,.int .u8 x6,.int .u8 x7]:=by
 match l,h with
 | [a,b,c,d,e,f,g,i],_=>exact ⟨_,_,_,_,_,_,_,_,rfl⟩
end Go.Proofs.YtcflojdkaddemaaGreatDoor

namespace Go.Proofs.YtcflojdkaddemaaGreatDoor
open Go.RowKit Go.Lib
set_option maxHeartbeats 1000000 in
theorem i_bytes (a:Int) (w:World) (_:(Lit.int .i64 a).wf=true) :
  Calls Tryz.prog 116 #[.int .i64 a] w fun e w'=>e=.returned (.agg (arrC (argB a 8)))∧Below w.heap.size w w':=by
 go_enter Tryz.func116,Tryz.ntmps116
 go_wp2_with fail
 go_loopw [4,5] (fun _ x wr=>∃ k:Nat,k≤8∧x=.int .i64 (k:Int)∧wr=((w.alloc (.cells (arrC (List.replicate 8 0)) 156)).alloc (.cells (arrC (fillB a k)) 156)))
  (fun _ x _=>8 - (intOf x).toNat)
 case atStart=>exact ⟨0,by omega,rfl,rfl⟩
 case round =>
  obtain ⟨k,hk,rfl,rfl⟩:=hrel
  by_cases hlt:k<8
  ·have hs:=hid (fillB_set a k hlt)
   have hb:=hid (shr_byte a k hlt);have hc:=hid (arrC_at (fillB a k) k (by rw [fillB_length a k (by omega)];omega));obtain ⟨Z,hZ⟩:∃ Z,arrC (List.replicate 8 0)=Z:=⟨_,rfl⟩;rw [hZ];obtain ⟨F,hF⟩:∃ F,arrC (fillB a k)=F:=⟨_,rfl⟩;rw [hF] at hs hc;rw [hF];have HF:=hid hF;have HZ:=hid hZ;clear hF hZ;have hcc:=hc.out;have k0:(0:Int)≤(k:Int):=by omega
   have k1:(k:Int)<8:=by omega
   go_wp2_with fail;go_roundw
   case rel=>exact ⟨k+1,by omega,by go_num,by rw [hb.out,hs.out]⟩
   case measure=>simp [intOf];omega
  ·have hk8:k=8:=by omega
   obtain ⟨x0,x1,x2,x3,x4,x5,x6,x7,hx⟩:=arr8 (fillB a k) (fillB_length a k hk);have HX:=hid hx;have HF:Hid (arrC (argB a 8)=arrC (fillB a k)):=hid (by rw [hk8,fillB_eight]);rw [hx];rw [show arrC (List.replicate 8 0)=#[.int .u8 0,.int .u8 0,.int .u8 0,.int .u8 0,.int .u8 0,.int .u8 0,.int .u8 0,.int .u8 0] from rfl];clear hx hk8;have k1:¬ (k:Int)<8:=by omega
   go_wp2_with fail;refine bodyPost_ret (v:=.agg #[.int .u8 x0,.int .u8 x1,.int .u8 x2,.int .u8 x3,.int .u8 x4,.int .u8 x5,.int .u8 x6,.int .u8 x7]) (by simp [results,Tryz.results116,go_sem]) rfl ⟨by rw [HF.out,HX.out],?_⟩;exact ((Below.refl _ _).alloc (Nat.le_refl _) _).alloc (by simp) _
end Go.Proofs.YtcflojdkaddemaaGreatDoor

namespace Go.Proofs.YtcflojdkaddemaaGreatDoor
open Go.RowKit Go.Lib
def widK (m k:Nat) (f:UInt8) (l:List UInt8):List UInt8:=l.take m++(List.replicate (k - m) f++l.drop k)
theorem widK_start (m:Nat) (f:UInt8) (l:List UInt8):widK m m f l=l:=by unfold widK;simp
theorem widK_length (m k:Nat) (f:UInt8) (l:List UInt8) (hl:l.length=8) (h1:m≤k) (h2:k≤8):(widK m k f l).length=8:=by
 unfold widK;simp only [List.length_append,List.length_take,List.length_replicate,List.length_drop,hl];omega
theorem widK_set (m k:Nat) (f:UInt8) (l:List UInt8) (hl:l.length=8) (h1:m≤k) (h2:k<8):(arrC (widK m k f l)).setIfInBounds k (.int .u8 (f.toNat:Int))=arrC (widK m (k+1) f l):=by
 have hd:l.drop k=l[k] :: l.drop (k+1):=List.drop_eq_getElem_cons (by omega);have e1:widK m k f l=(l.take m++List.replicate (k - m) f)++l[k] :: l.drop (k+1):=by unfold widK;rw [hd,List.append_assoc]
 have e2:widK m (k+1) f l=(l.take m++List.replicate (k - m) f)++f :: l.drop (k+1):=by
  unfold widK;rw [show k+1 - m=(k - m)+1 from by omega,List.replicate_succ',List.append_assoc,List.append_assoc];rfl
 have hlen:(l.take m++List.replicate (k - m) f).length=k:=by
  simp only [List.length_append,List.length_take,List.length_replicate,hl];omega
 obtain ⟨H,hH⟩:∃ H,l.take m++List.replicate (k - m) f=H:=⟨_,rfl⟩;rw [hH] at e1 e2 hlen;unfold arrC;rw [e1,e2,byteCells_append,byteCells_append];apply Array.toList_inj.1;simp only [Array.toList_setIfInBounds];have hl2:(byteCells H).length=k:=by simp [byteCells,hlen]
 rw [List.set_append,if_neg (by omega),hl2,Nat.sub_self];rfl
def filB (m:Nat) (sg:Bool) (l:List UInt8):UInt8:=if sg=true∧128≤(l.getD (m - 1) 0).toNat then 255 else 0
def widL (m:Nat) (sg:Bool) (l:List UInt8):List UInt8:=widK m 8 (filB m sg l) l
theorem filB_no (m:Nat) (l:List UInt8):filB m false l=0:=by unfold filB;rw [if_neg (by simp)]
theorem run_shape0 (m:Int) (b:Bool) (w:World):(Instr.field 159 (.agg #[.int .i64 m,.bool b]) 0).run Tryz.prog w=.ok (.int .i64 m) w:=by kernel_rfl
set_option maxHeartbeats 2000000 in
theorem i_wide (m:Nat) (sg:Bool) (l:List UInt8) (w:World) (hl:l.length=8) (hm:m≤8) (hs:sg=true→1≤m) :
  Calls Tryz.prog 158 #[.agg #[.int .i64 (m:Int),.bool sg],.agg (arrC l)] w fun e w'=>e=.returned (.agg (arrC (widL m sg l)))∧Below w.heap.size w w':=by
 have HL:=hid hl;clear hl;obtain ⟨F,hF⟩:∃ F,arrC l=F:=⟨_,rfl⟩;have HF:=hid hF
 cases sg
 ·have HFIL:=hid (filB_no m l)
  rw [hF];clear hF hs
  go_enter Tryz.func158,Tryz.ntmps158
  go_wp2_with fail
  go_loopw [6] (fun x wr=>∃ k:Nat,m≤k∧k≤8∧x=.int .i64 (k:Int)∧wr=(((w.alloc (.cells #[.int .i64 (m:Int),.bool false] 159)).alloc (.cells (arrC (widK m k 0 l)) 156)).alloc (.cells (arrC (List.replicate 8 0)) 156)))
   (fun x _=>8 - (intOf x).toNat)
  case atStart=>exact ⟨m,Nat.le_refl _,hm,rfl,by rw [widK_start,HF.out];rfl⟩
  case round =>
   obtain ⟨k,hmk,hk,rfl,rfl⟩:=hrel
   by_cases hlt:k<8
   ·have hs:=hid (widK_set m k 0 l HL.out hmk hlt)
    have hcc:=arrC_at (widK m k 0 l) k (by rw [widK_length m k _ l HL.out hmk hk];omega);obtain ⟨y,hy⟩:∃ y,((widK m k 0 l)[k]'(by rw [widK_length m k _ l HL.out hmk hk];omega)).toNat=y:=⟨_,rfl⟩;rw [hy] at hcc;obtain ⟨Z,hZ⟩:∃ Z,arrC (List.replicate 8 0)=Z:=⟨_,rfl⟩;rw [hZ];obtain ⟨G,hG⟩:∃ G,arrC (widK m k 0 l)=G:=⟨_,rfl⟩;rw [hG] at hs hcc ⊢;have HG:=hid hG;have HZ:=hid hZ;clear hG hZ hy;have k0:(0:Int)≤(k:Int):=by omega
    have k1:(k:Int)<8:=by omega
    go_wp2_with fail;go_roundw
    case rel=>exact ⟨k+1,by omega,by omega,by go_num,by rw [← hs.out];rfl⟩
    case measure=>simp [intOf];omega
   ·have hk8:k=8:=by omega
    obtain ⟨x0,x1,x2,x3,x4,x5,x6,x7,hx⟩:=arr8 (widK m k 0 l) (widK_length m k _ l HL.out hmk hk);have HX:=hid hx;have HW:Hid (arrC (widL m false l)=arrC (widK m k 0 l)):=hid (by rw [hk8];unfold widL;rw [HFIL.out]);rw [hx];rw [show arrC (List.replicate 8 0)=#[.int .u8 0,.int .u8 0,.int .u8 0,.int .u8 0,.int .u8 0,.int .u8 0,.int .u8 0,.int .u8 0] from rfl];clear hx hk8;have k1:¬ (k:Int)<8:=by omega
    go_wp2_with fail;refine bodyPost_ret (v:=.agg #[.int .u8 x0,.int .u8 x1,.int .u8 x2,.int .u8 x3,.int .u8 x4,.int .u8 x5,.int .u8 x6,.int .u8 x7]) (by simp [results,Tryz.results158,go_sem]) rfl ⟨by rw [HW.out,HX.out],?_⟩;exact (((Below.refl _ _).alloc (Nat.le_refl _) _).alloc (by simp) _).alloc (by simp;omega) _
 ·obtain ⟨n,rfl⟩:∃ n,m=n+1:=⟨m - 1,by have:=hs rfl;omega⟩
  have hcc:=arrC_at l n (by rw [HL.out];omega);have hnl:n<l.length:=by rw [HL.out];omega
  have hget:l.getD (n+1 - 1) 0=l[n]:=by rw [Nat.add_sub_cancel,List.getD_eq_getElem?_getD,List.getElem?_eq_getElem hnl];rfl
  obtain ⟨y,hy⟩:∃ y,l[n]=y:=⟨_,rfl⟩;rw [hF,hy] at hcc;rw [hF];have HN:=hid hnl;have HY:=hid (hget.trans hy);clear hF hs hnl hget hy;have hn0:(0:Int)≤(n:Int):=by omega
  have hn1:(n:Int)<8:=by omega
  have hn2:((n+1:Nat):Int) - 1=(n:Int):=by omega
  obtain ⟨m,hme⟩:∃ m,n+1=m:=⟨_,rfl⟩;rw [hme] at hn2 hm HY ⊢;have HME:=hid hme;clear hme
  by_cases h8:128≤y.toNat
  ·have HFIL:Hid (filB m true l=255):=hid (by unfold filB;rw [HY.out,if_pos ⟨rfl,h8⟩])
   have h8':(128:Int)≤(y.toNat:Int):=by omega
   clear h8
   go_enter Tryz.func158,Tryz.ntmps158
   go_wp2_with fail
   go_loopw [6] (fun x wr=>∃ k:Nat,m≤k∧k≤8∧x=.int .i64 (k:Int)∧wr=(((w.alloc (.cells #[.int .i64 (m:Int),.bool true] 159)).alloc (.cells (arrC (widK m k 255 l)) 156)).alloc (.cells (arrC (List.replicate 8 0)) 156)))
    (fun x _=>8 - (intOf x).toNat)
   case atStart=>exact ⟨m,Nat.le_refl _,hm,rfl,by rw [widK_start,HF.out];rfl⟩
   case round =>
    obtain ⟨k,hmk,hk,rfl,rfl⟩:=hrel
    by_cases hlt:k<8
    ·have hs:=hid (widK_set m k 255 l HL.out hmk hlt)
     have hcc:=arrC_at (widK m k 255 l) k (by rw [widK_length m k _ l HL.out hmk hk];omega);obtain ⟨y,hy⟩:∃ y,((widK m k 255 l)[k]'(by rw [widK_length m k _ l HL.out hmk hk];omega)).toNat=y:=⟨_,rfl⟩;rw [hy] at hcc;obtain ⟨Z,hZ⟩:∃ Z,arrC (List.replicate 8 0)=Z:=⟨_,rfl⟩;rw [hZ];obtain ⟨G,hG⟩:∃ G,arrC (widK m k 255 l)=G:=⟨_,rfl⟩;rw [hG] at hs hcc ⊢;have HG:=hid hG;have HZ:=hid hZ;clear hG hZ hy;have k0:(0:Int)≤(k:Int):=by omega
     have k1:(k:Int)<8:=by omega
     go_wp2_with fail;go_roundw
     case rel=>exact ⟨k+1,by omega,by omega,by go_num,by rw [← hs.out];rfl⟩
     case measure=>simp [intOf];omega
    ·have hk8:k=8:=by omega
     obtain ⟨x0,x1,x2,x3,x4,x5,x6,x7,hx⟩:=arr8 (widK m k 255 l) (widK_length m k _ l HL.out hmk hk);have HX:=hid hx;have HW:Hid (arrC (widL m true l)=arrC (widK m k 255 l)):=hid (by rw [hk8];unfold widL;rw [HFIL.out]);rw [hx];rw [show arrC (List.replicate 8 0)=#[.int .u8 0,.int .u8 0,.int .u8 0,.int .u8 0,.int .u8 0,.int .u8 0,.int .u8 0,.int .u8 0] from rfl];clear hx hk8;have k1:¬ (k:Int)<8:=by omega
     go_wp2_with fail;refine bodyPost_ret (v:=.agg #[.int .u8 x0,.int .u8 x1,.int .u8 x2,.int .u8 x3,.int .u8 x4,.int .u8 x5,.int .u8 x6,.int .u8 x7]) (by simp [results,Tryz.results158,go_sem]) rfl ⟨by rw [HW.out,HX.out],?_⟩;exact (((Below.refl _ _).alloc (Nat.le_refl _) _).alloc (by simp) _).alloc (by simp;omega) _
  ·have HFIL:Hid (filB m true l=0):=hid (by unfold filB;rw [HY.out,if_neg (fun h=>h8 h.2)])
   have h8':¬ (128:Int)≤(y.toNat:Int):=by omega
   clear h8
   go_enter Tryz.func158,Tryz.ntmps158
   go_wp2_with fail
   go_loopw [6] (fun x wr=>∃ k:Nat,m≤k∧k≤8∧x=.int .i64 (k:Int)∧wr=(((w.alloc (.cells #[.int .i64 (m:Int),.bool true] 159)).alloc (.cells (arrC (widK m k 0 l)) 156)).alloc (.cells (arrC (List.replicate 8 0)) 156)))
    (fun x _=>8 - (intOf x).toNat)
   case atStart=>exact ⟨m,Nat.le_refl _,hm,rfl,by rw [widK_start,HF.out];rfl⟩
   case round =>
    obtain ⟨k,hmk,hk,rfl,rfl⟩:=hrel
    by_cases hlt:k<8
    ·have hs:=hid (widK_set m k 0 l HL.out hmk hlt)
     have hcc:=arrC_at (widK m k 0 l) k (by rw [widK_length m k _ l HL.out hmk hk];omega);obtain ⟨y,hy⟩:∃ y,((widK m k 0 l)[k]'(by rw [widK_length m k _ l HL.out hmk hk];omega)).toNat=y:=⟨_,rfl⟩;rw [hy] at hcc;obtain ⟨Z,hZ⟩:∃ Z,arrC (List.replicate 8 0)=Z:=⟨_,rfl⟩;rw [hZ];obtain ⟨G,hG⟩:∃ G,arrC (widK m k 0 l)=G:=⟨_,rfl⟩;rw [hG] at hs hcc ⊢;have HG:=hid hG;have HZ:=hid hZ;clear hG hZ hy;have k0:(0:Int)≤(k:Int):=by omega
     have k1:(k:Int)<8:=by omega
     go_wp2_with fail;go_roundw
     case rel=>exact ⟨k+1,by omega,by omega,by go_num,by rw [← hs.out];rfl⟩
     case measure=>simp [intOf];omega
    ·have hk8:k=8:=by omega
     obtain ⟨x0,x1,x2,x3,x4,x5,x6,x7,hx⟩:=arr8 (widK m k 0 l) (widK_length m k _ l HL.out hmk hk);have HX:=hid hx;have HW:Hid (arrC (widL m true l)=arrC (widK m k 0 l)):=hid (by rw [hk8];unfold widL;rw [HFIL.out]);rw [hx];rw [show arrC (List.replicate 8 0)=#[.int .u8 0,.int .u8 0,.int .u8 0,.int .u8 0,.int .u8 0,.int .u8 0,.int .u8 0,.int .u8 0] from rfl];clear hx hk8;have k1:¬ (k:Int)<8:=by omega
     go_wp2_with fail;refine bodyPost_ret (v:=.agg #[.int .u8 x0,.int .u8 x1,.int .u8 x2,.int .u8 x3,.int .u8 x4,.int .u8 x5,.int .u8 x6,.int .u8 x7]) (by simp [results,Tryz.results158,go_sem]) rfl ⟨by rw [HW.out,HX.out],?_⟩;exact (((Below.refl _ _).alloc (Nat.le_refl _) _).alloc (by simp) _).alloc (by simp;omega) _
end Go.Proofs.YtcflojdkaddemaaGreatDoor

namespace Go.Proofs.YtcflojdkaddemaaGreatDoor
open Go.RowKit Go.Lib
theorem valB_append (A B:List UInt8):valB (A++B)=valB A+256 ^ A.length*valB B:=by
 induction A with
 | nil=>simp [valB]
 | cons a r ih =>
  rw [List.cons_append,valB,valB,ih,List.length_cons,Nat.pow_succ,Nat.mul_add]
  have:256*(256 ^ r.length*valB B)=256 ^ r.length*256*valB B:=by rw [Nat.mul_comm (256 ^ r.length) 256,Nat.mul_assoc]
  omega
theorem valB_inj:∀ (A B:List UInt8),A.length=B.length→valB A=valB B→A=B
 | [],[],_,_=>rfl
 | a :: r,b :: q,hl,hv=>by
  rw [valB,valB] at hv;have h1:=a.toNat_lt;have h2:=b.toNat_lt;have e1:a.toNat=b.toNat:=by omega
  have e2:valB r=valB q:=by omega
  rw [valB_inj r q (by simpa using hl) e2,UInt8.toNat_inj.1 e1]
 | [],_ :: _,hl,_=>by simp at hl
 | _ :: _,[],hl,_=>by simp at hl
theorem valB_zeros (n:Nat):valB (List.replicate n 0)=0:=by
 induction n with
 | zero=>rfl
 | succ n ih=>rw [List.replicate_succ,valB,ih];rfl
theorem argB_take (a:Int) (m:Nat) (h:m≤8):(argB a 8).take m=argB a m:=by
 unfold argB;rw [← List.map_take,List.take_range,show min m 8=m from by omega]
theorem argB_getD (a:Int) (k:Nat) (h:k<8):((argB a 8).getD k 0).toNat=(a / ((256 ^ k:Nat):Int) % 256).toNat:=by
 unfold argB;rw [List.getD_eq_getElem?_getD,List.getElem?_map,List.getElem?_range h]
 show (bytA a k).toNat=_
 have h1:=Int.emod_nonneg (a / ((256 ^ k:Nat):Int)) (show (256:Int)≠0 by decide);have h2:=Int.emod_lt_of_pos (a / ((256 ^ k:Nat):Int)) (show (0:Int)<256 by decide)
 have:=byte_of (a / ((256 ^ k:Nat):Int) % 256) h1 h2
 unfold bytA;omega
theorem widL_eq (m:Nat) (sg:Bool) (l:List UInt8) (hl:l.length=8):widL m sg l=l.take m++List.replicate (8 - m) (filB m sg l):=by
 unfold widL widK;rw [List.drop_of_length_le (by omega),List.append_nil]
theorem widL_length (m:Nat) (sg:Bool) (l:List UInt8) (hl:l.length=8) (hm:m≤8):(widL m sg l).length=8:=widK_length m 8 _ l hl hm (Nat.le_refl _)
theorem val_ff6:valB (List.replicate 6 255)=281474976710655:=by decide
theorem val_ff4:valB (List.replicate 4 255)=4294967295:=by decide
theorem valB_wide (a:Int) (m:Nat) (sg:Bool) (hm:m≤8):(valB (widL m sg (argB a 8)):Int)=a % ((256 ^ m:Nat):Int)+((256 ^ m:Nat):Int)*(valB (List.replicate (8 - m) (filB m sg (argB a 8))):Int):=by
 rw [widL_eq m sg _ (argB_length a 8),valB_append,argB_take a m hm,argB_length,Int.natCast_add,valB_arg,Int.natCast_mul]
theorem fit_iff (c a:Int) (h0:-9223372036854775808≤a) (h1:a≤9223372036854775807):widL (widN c) (sgnB c) (argB a 8)=argB a 8↔loZ c≤a∧a≤hiZ c:=by
 have hm:widN c≤8:=Nat.le_trans (widN_le c) (by decide);have hval:widL (widN c) (sgnB c) (argB a 8)=argB a 8↔(valB (widL (widN c) (sgnB c) (argB a 8)):Int)=(valB (argB a 8):Int):=by
  constructor
  ·intro h;rw [h]
  ·intro h
   exact valB_inj _ _ ((widL_length _ _ _ (argB_length a 8) hm).trans (argB_length a 8).symm) (by omega)
 rw [hval,valB_wide a _ _ hm,valB_arg];have e8:((256 ^ 8:Nat):Int)=18446744073709551616:=by decide
 rw [e8];have hg1:=argB_getD a 1 (by decide);have hg3:=argB_getD a 3 (by decide);have p1:((256 ^ 1:Nat):Int)=256:=by decide
 have p3:((256 ^ 3:Nat):Int)=16777216:=by decide
 have p0:((256 ^ 0:Nat):Int)=1:=by decide
 have p2:((256 ^ 2:Nat):Int)=65536:=by decide
 have p4:((256 ^ 4:Nat):Int)=4294967296:=by decide
 rw [p1] at hg1;rw [p3] at hg3
 rcases fit_cases c with ⟨h1,h2,h3,h4⟩|⟨h1,h2,h3,h4⟩|⟨h1,h2,h3,h4⟩|⟨h1,h2,h3,h4⟩|⟨h1,h2,h3,h4⟩
 ·rw [h1,h2,h3,h4,filB_no,valB_zeros,p0];omega
 ·rw [h1,h2,h3,h4,filB_no,valB_zeros,p1];omega
 ·rw [h1,h2,h3,h4,filB_no,valB_zeros,p2];omega
 ·rw [h1,h2,h3,h4,p2]
  by_cases hb:128≤((argB a 8).getD 1 0).toNat
  ·rw [show filB 2 true (argB a 8)=255 from by unfold filB;exact if_pos ⟨rfl,hb⟩,show 8 - 2=6 from rfl,val_ff6];omega
  ·rw [show filB 2 true (argB a 8)=0 from by unfold filB;exact if_neg (fun h=>hb h.2),valB_zeros];omega
 ·rw [h1,h2,h3,h4,p4]
  by_cases hb:128≤((argB a 8).getD 3 0).toNat
  ·rw [show filB 4 true (argB a 8)=255 from by unfold filB;exact if_pos ⟨rfl,hb⟩,show 8 - 4=4 from rfl,val_ff4];omega
  ·rw [show filB 4 true (argB a 8)=0 from by unfold filB;exact if_neg (fun h=>hb h.2),valB_zeros];omega
theorem infoU:(Tryz.prog.info? 5).map (fun i=>(i.zero,i.size,i.bytes))=some (some (.int .u8 0),1,1):=by kernel_rfl
theorem eq_item (d i:Nat) (xs ys:Array Value) (x y:Int) (is:List Nat) (w:World) (hx:xs[i]?=some (.int .u8 x)) (hy:ys[i]?=some (.int .u8 y)) :
  (Op.eqItems (d+1) 5 1 xs ys (i :: is)).run Tryz.prog w=if x=y then (Op.eqItems (d+1) 5 1 xs ys is).run Tryz.prog w else .ok false w:=by
 have p1:(part 5 xs (i*1)).run Tryz.prog w=.ok (.int .u8 x) w:=by simp [part,go_sem,hx]
 have p2:(part 5 ys (i*1)).run Tryz.prog w=.ok (.int .u8 y) w:=by simp [part,go_sem,hy]
 simp only [Op.eqItems,Sem.run_bind,p1,p2,Result.andThen_ok,run_equalIn_int w d 5 .u8 .u8 x y Tryz.underlying5]
 by_cases h:x=y
 ·simp [h]
 ·simp [h]
theorem eq_items (d:Nat) (A B:List UInt8) (hA:A.length=8) (hB:B.length=8) (w:World):∀ (n k:Nat),k+n=8 →
  (Op.eqItems (d+1) 5 1 (arrC A) (arrC B) (List.range' k n)).run Tryz.prog w=.ok (decide (A.drop k=B.drop k)) w:=by
 intro n
 induction n with
 | zero =>
  intro k hk;rw [List.drop_of_length_le (show A.length≤k by omega),List.drop_of_length_le (show B.length≤k by omega)];rfl
 | succ n ih =>
  intro k hk;rw [List.range'_succ,eq_item d k _ _ _ _ _ w (arrC_at A k (by omega)) (arrC_at B k (by omega)),ih (k+1) (by omega)];have hiff:(A.drop k=B.drop k)↔(A[k]'(by omega)=B[k]'(by omega)∧A.drop (k+1)=B.drop (k+1)):=by
   rw [List.drop_eq_getElem_cons (show k<A.length by omega),List.drop_eq_getElem_cons (show k<B.length by omega),List.cons.injEq]
  by_cases h:A[k]'(by omega)=B[k]'(by omega)
  ·rw [if_pos (by rw [h])]
   congr 1
   rw [decide_eq_decide,hiff];exact ⟨fun e=>⟨h,e⟩,fun e=>e.2⟩
  ·rw [if_neg (fun e=>h (UInt8.toNat_inj.1 (Int.ofNat_inj.1 e)))]
   congr 1
   exact (decide_eq_false (fun e=>h (hiff.1 e).1)).symm
theorem run_eql_arr (A B:List UInt8) (hA:A.length=8) (hB:B.length=8) (w:World) :
  (binOp .eql 156 (.agg (arrC A)) (.agg (arrC B))).run Tryz.prog w=.ok (.bool (decide (A=B))) w:=by
 obtain ⟨i0,hi,hz0,hz1,hz2⟩:=info_parts infoU;have hc:Tryz.prog.cellsOf 5=1:=by kernel_rfl
 have e:=eq_items 9998 A B hA hB w 8 0 rfl;rw [List.drop_zero,List.drop_zero] at e;rw [run_eql_struct,run_equalIn_array w 9999 (arrC A) (arrC B) Tryz.underlying156 hi,hc,List.range_eq_range',e];rfl
end Go.Proofs.YtcflojdkaddemaaGreatDoor
