/- Parts of the proof. -/
import Derived.Test.YtcflojdkaddemaaGreatDoorI22
namespace Go.Proofs.YtcflojdkaddemaaGreatDoor
open Go.RowKit Go.Lib
def fixI {α:Type} (pb:α→Bool) (l:List α):Int:=match l.findIdx? pb with
 | some j=>(j:Int)
 | none=>-1
theorem fixI_at {α:Type} (pb:α→Bool) (l:List α) (j:Nat) (h:j<l.length) (hj:pb l[j]=true) (hno:∀ i,∀ h:i<j,pb l[i]=false):fixI pb l=(j:Int):=by
 unfold fixI
 have:l.findIdx? pb=some j:=by
  rw [List.findIdx?_eq_some_iff_getElem];exact ⟨h,hj,fun i hi=>by rw [hno i hi];decide⟩
 rw [this]
theorem fixI_none {α:Type} (pb:α→Bool) (l:List α) (h:∀ j,∀ h:j<l.length,pb l[j]=false):fixI pb l=-1:=by
 unfold fixI
 have:l.findIdx? pb=none:=by
  rw [List.findIdx?_eq_none_iff];intro x hx;obtain ⟨j,hj,rfl⟩:=List.mem_iff_getElem.1 hx;exact h j hj
 rw [this]
theorem fixI_any {α:Type} (pb:α→Bool) (l:List α):decide (0≤fixI pb l)=l.any pb:=by
 unfold fixI
 cases h:l.findIdx? pb with
 | some j =>
  simp only;rw [decide_eq_true (by omega)];obtain ⟨hj,hx,_⟩:=List.findIdx?_eq_some_iff_getElem.1 h;exact (List.any_eq_true.2 ⟨_,List.getElem_mem hj,hx⟩).symm
 | none =>
  simp only;rw [List.findIdx?_eq_none_iff] at h
  cases hc:l.any pb with
  | false=>rfl
  | true =>
   obtain ⟨x,hx,hp⟩:=List.any_eq_true.1 hc;rw [h x hx] at hp;cases hp
def SzAl (X:List LnL):Prop:=∀ x ∈ X,SmallL x.p
theorem szOk_of {x:LnL} (h:SmallL x.p) (c:Nat) (h1:x.args.length≤c) (h2:c≤maxLen):SzOk x.p c :=
 ⟨by have:=h.2.1;omega,h1,h2,fun s hs=>small_max (h.2.2.1 s hs),small_max h.1,h.2.2.2.1,fun j hj=>small_max (h.2.2.2.2 _ (List.getElem_mem hj))⟩
set_option maxRecDepth 100000 in
set_option maxHeartbeats 1000000 in
theorem i_badLine (p:PLine) (a b:Option Addr) (c d:Nat) (w:World) (hA:ReadS w a p.args) (hT:ReadT w b p.expr) (hs:SzOk p c) (hsh:Shapes w) :
  Calls Tryz.prog 160 #[.agg #[.int .i64 p.kind,.string p.name,.slice a p.args.length c,.slice b p.expr.length d]] w fun e w'=>e=.returned (.bool (!lineB p))∧Below w.heap.size w w':=by
 have hb0:=(Below.refl w.heap.size w).alloc (Nat.le_refl _) (.cells #[.int .i64 p.kind,.string p.name,.slice a p.args.length c,.slice b p.expr.length d] 87);have HL:=hid (i_lineok p a b c d _ (hA.below hb0) (hT.below hb0) hs (hsh.on hb0));have HB0:=hid hb0;have hz:(w.alloc (.cells #[.int .i64 p.kind,.string p.name,.slice a p.args.length c,.slice b p.expr.length d] 87)).heap.size=w.heap.size+1:=by simp
 obtain ⟨r,hr⟩:∃ r,lineB p=r:=⟨_,rfl⟩;rw [hr] at HL ⊢;obtain ⟨k,nm,gs,ex⟩:=p;dsimp only at HL HB0 hz ⊢;clear hA hT hs hsh hb0 hr
 go_enter Tryz.func160,Tryz.ntmps160
 go_wp2_with fail;refine HL.out.mono ?_;rintro e w1 ⟨rfl,b1⟩;have HB1:Hid (Below w.heap.size w w1):=hid (HB0.out.trans (b1.mono (by omega)));clear b1;go_wp2;go_ret;exact ⟨rfl,HB1.out⟩
set_option maxRecDepth 100000 in
set_option maxHeartbeats 2000000 in
theorem i_indexBad (a:Option Addr) (cap:Nat) (X:List LnL) (w:World) (hl:X.length≤2000000) (hr:ReadL 9 147 w a X) (hz:SzAl X) (hsh:Shapes w) :
  Calls Tryz.prog 192 #[.slice a X.length cap,.func (.func 160) #[] #[]] w fun e w'=>e=.returned (.int .i64 (fixI (fun p=>!lineB p) (plL X)))∧Below w.heap.size w w':=by
 have HR:=hid hr;have HZ:=hid hz;have HSH:=hid hsh;have hpl:=plL_length X;clear hr hz hsh
 go_enter Tryz.func192,Tryz.ntmps192
 go_wp2_with fail
 go_loopw [5,8] (fun _ i wr=>∃ q:Nat,q≤X.length∧i=.int .i64 (q:Int)∧Hid (∀ j,∀ h:j<(plL X).length,j<q→(!lineB (plL X)[j])=false)∧Below w.heap.size w wr) (fun _ i _=>X.length - (RowKit.intOf i).toNat)
 case atStart=>exact ⟨0,Nat.zero_le _,rfl,hid (fun j _ h=>by omega),Below.refl _ _⟩
 case round =>
  obtain ⟨q,hq,rfl,HE,hbel⟩:=hrel;have HB:=hid hbel;have hB:=hbel.size
  by_cases hlt:q<X.length
  ·obtain ⟨g,rfl,hg,⟨c0,c1,c2,c3⟩,hm⟩:=(HR.out.below hbel) q hlt
   have hqp:q<(plL X).length:=by omega
   have hsm:=HZ.out _ (List.getElem_mem hlt);have HAT:=hid (fun h=>fixI_at (fun p=>!lineB p) (plL X) q hqp h (fun i hi=>HE.out i (by omega) hi));have HNX:=hid (fun (h:(!lineB (plL X)[q])=false)=>show ∀ j,∀ h:j<(plL X).length,j<q+1→(!lineB (plL X)[j])=false from fun j hj hjq=>by
    by_cases hjj:j=q
    ·subst hjj;exact h
    ·exact HE.out j hj (by omega))
   rw [pl_at X q hlt] at HAT HNX;obtain ⟨xa,xb,xc,xd,ea,ee,rs,rt,hcap,_⟩:=inMem_shape hm;rw [ea] at c2;rw [ee] at c3;have HF:=hid (i_badLine X[q].p xa xb xc xd wr rs rt (szOk_of hsm xc hcap.1 hcap.2) (HSH.out.on hbel));obtain ⟨r,hr⟩:∃ r,lineB X[q].p=r:=⟨_,rfl⟩;rw [hr] at HF HAT HNX;obtain ⟨x,hx⟩:∃ x,X[q]=x:=⟨_,rfl⟩;rw [hx] at c0 c1 c2 c3 HF;obtain ⟨kk,nm,gs,ex,va,ve⟩:=x;dsimp only [LnL.p] at c0 c1 c2 c3 HF;have k0:(0:Int)≤(q:Int):=by omega
   have k1:(q:Int)<(X.length:Int):=by omega
   clear hbel hm ea ee hr hx rs rt hcap hsm
   cases r
   ·have HV:=hid (HAT.out rfl)
    clear HAT HNX;go_wp2_with fail;refine HF.out.mono ?_;rintro e w1 ⟨rfl,b1⟩;have HB1:Hid (Below w.heap.size w w1):=hid (HB.out.trans (b1.mono hB));clear b1 c0 c1 c2 c3;go_wp2;go_ret;exact ⟨by rw [HV.out];rfl,HB1.out⟩
   ·have HN:=hid (HNX.out rfl)
    clear HAT HNX;go_wp2_with fail;refine HF.out.mono ?_;rintro e w1 ⟨rfl,b1⟩;have HB1:Hid (Below w.heap.size w w1):=hid (HB.out.trans (b1.mono hB));clear b1 c0 c1 c2 c3;go_wp2;go_roundw
    case rel=>exact ⟨q+1,by omega,by go_num,HN,HB1.out⟩
    case measure=>simp [RowKit.intOf];omega
  ·have HV:=hid (fixI_none (fun p=>!lineB p) (plL X) (fun j hj=>HE.out j hj (by omega)))
   have hqq:q=X.length:=by omega
   subst hqq;clear hbel;go_wp2;go_ret;exact ⟨by rw [HV.out];rfl,HB.out⟩
def linesB (p:List PLine):Bool:=decide (p.length≤60)&&p.all lineB
theorem linesB_iff (p:List PLine):linesB p=true↔(p.length≤60∧∀ x ∈ p,lineB x=true):=by
 unfold linesB;rw [Bool.and_eq_true,decide_eq_true_eq,List.all_eq_true]
theorem any_not (p:List PLine):(!p.any fun p=>!lineB p)=p.all lineB:=by
 rw [List.not_any_eq_all_not]
 congr 1
 funext x
 rw [Bool.not_not]
set_option maxHeartbeats 1000000 in
theorem x_containsBad (a:Option Addr) (cap:Nat) (X:List LnL) (w:World) (hl:X.length≤2000000) (hr:ReadL 9 147 w a X) (hz:SzAl X) (hsh:Shapes w) :
  Calls Tryz.prog 159 #[.slice a X.length cap,.func (.func 160) #[] #[]] w fun e w'=>e=.returned (.bool (!(plL X).all lineB))∧Below w.heap.size w w':=by
 have HC:=hid (i_indexBad a cap X w hl hr hz hsh);have HM:Hid (decide (0≤fixI (fun p=>!lineB p) (plL X))=!(plL X).all lineB):=hid (by rw [fixI_any,← any_not,Bool.not_not]);clear hr hz hsh
 go_enter Tryz.func159,Tryz.ntmps159
 go_wp2_with fail;refine HC.out.mono ?_;rintro e w1 ⟨rfl,b1⟩;have HB:=hid b1;clear b1;generalize fixI (fun p=>!lineB p) (plL X)=r at *;go_wp2;go_ret;exact ⟨ret_b HM.out,HB.out⟩
set_option maxHeartbeats 1000000 in
theorem i_linesFit (a:Option Addr) (cap:Nat) (X:List LnL) (w:World) (hl:X.length≤2000000) (hr:ReadL 9 147 w a X) (hz:SzAl X) (hsh:Shapes w) :
  Calls Tryz.prog 118 #[.slice a X.length cap] w fun e w'=>e=.returned (.bool (linesB (plL X)))∧Below w.heap.size w w':=by
 have HC:=hid (x_containsBad a cap X w hl hr hz hsh);have hpl:=plL_length X;clear hr hz hsh
 by_cases h60:X.length≤60
 ·have HV:Hid (linesB (plL X)=(plL X).all lineB):=hid (by unfold linesB;rw [decide_eq_true (by omega)];rfl)
  have hd:decide ((X.length:Int)≤60)=true:=decide_eq_true (by omega);generalize (plL X).all lineB=r at *;clear hpl
  go_enter Tryz.func118,Tryz.ntmps118
  go_wp2_with fail;refine HC.out.mono ?_;rintro e w1 ⟨rfl,b1⟩;have HB:=hid b1;clear b1;go_wp2;go_ret;exact ⟨ret_b (by rw [HV.out]),HB.out⟩
 ·have HV:Hid (linesB (plL X)=false):=hid (by unfold linesB;rw [decide_eq_false (by omega)];rfl)
  have hd:decide ((X.length:Int)≤60)=false:=decide_eq_false (by omega);clear hpl
  go_enter Tryz.func118,Tryz.ntmps118
  go_wp2;go_ret;exact ⟨ret_b HV.out.symm,Below.refl _ _⟩
end Go.Proofs.YtcflojdkaddemaaGreatDoor

namespace Go.Proofs.YtcflojdkaddemaaGreatDoor
open Go.RowKit Go.Lib
def nmZ (p:List PLine) (k:Nat):ByteArray:=match p[k]? with
 | none=>⟨#[]⟩
 | some x=>x.name
theorem nmZ_at (X:List LnL) (k:Nat) (h:k<X.length):nmZ (plL X) k=X[k].name:=by
 have hq:k<(plL X).length:=by rw [plL_length];exact h
 unfold nmZ;rw [List.getElem?_eq_getElem hq,pl_at X k h];rfl
def FunsP (p:List PLine):Prop:=(funs p).length≤6∧findZ p mainT=0∧argsZ p 0=[]∧∀ k ∈ funs p,∀ h:k<p.length,findZ p p[k].name=(k:Int)
def uniq (p:List PLine) (q:Nat):Prop:=∀ i,∀ h:i<(funs p).length,i<q→findZ p (nmZ p (funs p)[i])=((funs p)[i]:Int)
theorem uniq_all (p:List PLine):uniq p (funs p).length↔∀ k ∈ funs p,∀ h:k<p.length,findZ p p[k].name=(k:Int):=by
 have hn:∀ k,∀ h:k<p.length,nmZ p k=p[k].name:=fun k h=>by unfold nmZ;rw [List.getElem?_eq_getElem h]
 constructor
 ·intro hu k hk h
  obtain ⟨i,hi,rfl⟩:=List.mem_iff_getElem.1 hk;rw [← hn _ h];exact hu i hi hi
 ·intro hu i hi _
  have hlt:=funs_lt p i hi;rw [hn _ hlt];exact hu _ (List.getElem_mem hi) hlt
set_option maxRecDepth 100000 in
set_option maxHeartbeats 4000000 in
theorem i_funFit (a:Option Addr) (cap:Nat) (X:List LnL) (w:World) (hl:X.length≤1048576) (hr:ReadL 9 147 w a X) :
  Calls Tryz.prog 119 #[.slice a X.length cap] w (Ans (FunsP (plL X)) w):=by
 have HR:=hid hr;have hpl:=plL_length X;have HF:=hid (i_funLines a cap X w hl hr);have HE:=hid (fun (W:World) (hb:Below w.heap.size w W) n=>i_findFn a cap X n W (by omega) (hr.below hb));clear hr
 go_enter Tryz.func119,Tryz.ntmps119
 go_wp2_with fail;refine HF.out.mono ?_;rintro e w1 ⟨v,rfl,hown,b1⟩;obtain ⟨av,cv,rfl⟩:=owns3_shape hown;have HRI:=hid (readI_of hown);have HB1:=hid b1;have z1:=b1.size;have hfl:=funI_length (plL X);obtain ⟨F,hF⟩:∃ F,funI (plL X)=F:=⟨_,rfl⟩;have HFG:=hid (fun i h=>funI_get (plL X) i h);rw [hF] at HRI hfl HFG;have HFL:=hid hfl;obtain ⟨n,hn⟩:∃ n,F.length=n:=⟨_,rfl⟩;have HNN:=hid hn;rw [hF,hn];rw [hn] at hfl;have HNF:=hid hfl;clear b1 hown hF hn HF hfl
 by_cases hn6:6<n
 ·have HV:Hid (¬ FunsP (plL X)):=hid (fun h=>by have:=h.1;have:=HNF.out;omega)
  have hd:decide (6<(n:Int))=true:=decide_eq_true (by omega);go_wp2;go_ret;exact Ans.of false rfl (by simpa using HV.out) HB1.out
 have hd:decide (6<(n:Int))=false:=decide_eq_false (by omega);have HMM:=hid (HE.out w1 HB1.out ⟨#[109,97,105,110]⟩)
 by_cases hm:findZ (plL X) mainT=0
 ·obtain ⟨h0l,h00,_⟩:=(find_zero (plL X) mainT).1 hm
  have hx0:0<X.length:=by omega
  obtain ⟨g,rfl,hg,⟨_,_,c2,_⟩,hmm⟩:=(HR.out.below HB1.out) 0 hx0;obtain ⟨xa,_,xc,_,ea,_,_,_,_,_⟩:=inMem_shape hmm;rw [ea] at c2;have c2':w1.cell? ⟨g,2,none⟩=some (.slice xa X[0].args.length xc):=c2;have HM:Hid (findZ (plL X) ⟨#[109,97,105,110]⟩=0):=hid hm;rw [HM.out] at HMM;have HA0:Hid (argsZ (plL X) 0=X[0].args):=hid (argsZ_at X 0 hx0);have HU:Hid (uniq (plL X) n↔∀ k ∈ funs (plL X),∀ h:k<(plL X).length,findZ (plL X) (plL X)[k].name=(k:Int)):=hid (by rw [HNF.out];exact uniq_all _);have HM0:=hid hm;clear c2 hmm ea hm h00
  by_cases ha:X[0].args.length=0
  ·have hd0:decide ((0:Int)<(X[0].args.length:Int))=false:=decide_eq_false (by omega)
   have hd1:¬ 0<X[0].args.length:=by omega
   have HFP:Hid (uniq (plL X) n↔FunsP (plL X)):=hid (by
    rw [HU.out];unfold FunsP;exact ⟨fun h=>⟨by have:=HNF.out;omega,HM0.out,by rw [HA0.out];exact List.length_eq_zero_iff.1 ha,h⟩,fun h=>h.2.2.2⟩)
   generalize X[0].args.length=na at *;clear ha;go_wp2_with fail;refine HMM.out.mono ?_;rintro e w2 ⟨rfl,b2⟩;have HB2:Hid (Below w.heap.size w w2):=hid (HB1.out.trans (b2.mono z1));have HC2:=hid b2;have d2:w2.cell? ⟨g,2,none⟩=some (.slice xa na xc):=(b2.cell (p:=⟨g,2,none⟩) (by show g<w1.heap.size;omega)).trans c2';clear b2 c2';go_wp2_with fail;clear d2
   go_loopw [5,26] (fun _ i wr=>∃ q:Nat,q≤n∧i=.int .i64 (q:Int)∧Hid (uniq (plL X) q)∧Below w.heap.size w wr∧Below w1.heap.size w1 wr) (fun _ i _=>n - (RowKit.intOf i).toNat)
   case atStart=>exact ⟨0,Nat.zero_le _,rfl,hid (fun i _ h=>by omega),HB2.out,HC2.out⟩
   case round =>
    obtain ⟨q,hq,rfl,HP,hbel,hbel1⟩:=hrel;have HB:=hid hbel;have HC:=hid hbel1;have hB:=hbel.size;have hC:=hbel1.size
    by_cases hlt:q<n
    ·have hqF:q<F.length:=by rw [HNN.out];exact hlt
     obtain ⟨gv,rfl,hgv,c0⟩:=(HRI.out.below hbel1) q hqF;obtain ⟨hq',hget⟩:=HFG.out q hqF;rw [hget] at c0;have hklt:=funs_lt (plL X) q hq';have HPN:=hid (fun (h:findZ (plL X) (nmZ (plL X) (funs (plL X))[q])=(((funs (plL X))[q]:Nat):Int))=>show uniq (plL X) (q+1) from fun i hi hiq=>by
      by_cases hiq':i=q
      ·subst hiq';exact h
      ·exact HP.out i hi (by omega))
     have HPX:=hid (fun (h:FunsP (plL X))=>HFP.out.2 h q hq' hlt);obtain ⟨k,hk⟩:∃ k,(funs (plL X))[q]=k:=⟨_,rfl⟩;rw [hk] at c0 hklt HPN HPX;have hkX:k<X.length:=by omega
     rw [nmZ_at X k hkX] at HPN HPX;obtain ⟨g',hga,hg',⟨_,c1,_,_⟩,_⟩:=(HR.out.below hbel) k hkX;injection hga with hga
     injection hga with hga
     subst hga;have HEK:=hid (HE.out wr hbel X[k].name);obtain ⟨r,hrr⟩:∃ r,findZ (plL X) X[k].name=r:=⟨_,rfl⟩;rw [hrr] at HEK HPN HPX;generalize X[k].name=nm at *;have k0:(0:Int)≤(q:Int):=by omega
     have k1:(q:Int)<(n:Int):=by omega
     have k2:(0:Int)≤(k:Int):=by omega
     have k3:(k:Int)<(X.length:Int):=by omega
     clear hk hrr hget hqF hq' hbel hbel1 hklt
     by_cases hrk:r=(k:Int)
     ·subst hrk
      have HN:=hid (HPN.out rfl);clear HPN HPX HP;go_wp2_with fail;refine HEK.out.mono ?_;rintro e w3 ⟨rfl,b3⟩;have HB3:Hid (Below w.heap.size w w3):=hid (HB.out.trans (b3.mono hB));have HC3:Hid (Below w1.heap.size w1 w3):=hid (HC.out.trans (b3.mono hC));clear b3 c0 c1;go_wp2;go_roundw
      case rel=>exact ⟨q+1,by omega,by go_num,HN,HB3.out,HC3.out⟩
      case measure=>simp [RowKit.intOf];omega
     ·have HV:Hid (¬ FunsP (plL X)):=hid (fun h=>hrk (HPX.out h))
      have hdk:(r != (k:Int))=true:=by simpa using hrk
      clear HPN HPX HP hrk;go_wp2_with fail;refine HEK.out.mono ?_;rintro e w3 ⟨rfl,b3⟩;have HB3:Hid (Below w.heap.size w w3):=hid (HB.out.trans (b3.mono hB));clear b3 c0 c1;go_wp2;go_ret;exact Ans.of false rfl (by simpa using HV.out) HB3.out
    ·have hqq:q=n:=by omega
     have HV:Hid (FunsP (plL X)):=hid (HFP.out.1 (hqq▸HP.out));subst hqq;clear hbel hbel1 HP;go_wp2;go_ret;exact Ans.of true rfl (by simpa using HV.out) HB.out
  ·have hd0:decide ((0:Int)<(X[0].args.length:Int))=true:=decide_eq_true (by omega)
   have hd1:0<X[0].args.length:=by omega
   have HV:Hid (¬ FunsP (plL X)):=hid (fun h=>by
    have:=h.2.2.1
    rw [HA0.out] at this;exact ha (by rw [this];rfl))
   generalize X[0].args.length=na at *;clear ha;go_wp2_with fail;refine HMM.out.mono ?_;rintro e w2 ⟨rfl,b2⟩;have HB2:Hid (Below w.heap.size w w2):=hid (HB1.out.trans (b2.mono z1));have d2:w2.cell? ⟨g,2,none⟩=some (.slice xa na xc):=(b2.cell (p:=⟨g,2,none⟩) (by show g<w1.heap.size;omega)).trans c2';clear b2 c2';go_wp2;go_ret;exact Ans.of false rfl (by simpa using HV.out) HB2.out
 ·have HV:Hid (¬ FunsP (plL X)):=hid (fun h=>hm h.2.1)
  obtain ⟨r,hrr⟩:∃ r,findZ (plL X) ⟨#[109,97,105,110]⟩=r:=⟨_,rfl⟩;have hrn:r≠0:=fun e=>hm (by rw [← e,← hrr];rfl)
  rw [hrr] at HMM;have hdr:(r != 0)=true:=by simpa using hrn
  clear hm hrn hrr;go_wp2_with fail;refine HMM.out.mono ?_;rintro e w2 ⟨rfl,b2⟩;have HB2:Hid (Below w.heap.size w w2):=hid (HB1.out.trans (b2.mono z1));clear b2;go_wp2;go_ret;exact Ans.of false rfl (by simpa using HV.out) HB2.out
end Go.Proofs.YtcflojdkaddemaaGreatDoor

namespace Go.Proofs.YtcflojdkaddemaaGreatDoor
open Go.RowKit Go.Lib
def knownB (p:List PLine) (v:List ByteArray) (t:TokL):Bool :=
 if t.kind=1 then memB v t.name else if t.kind=7 then decide (0≤findZ p t.name)&&decide (((argsZ p (findZ p t.name)).length:Int)=t.num) else true
theorem knownB_iff (p:List PLine) (v:List ByteArray) (t:TokL):knownB p v t=true↔knownP p v t:=by
 unfold knownB knownP
 by_cases h1:t.kind=1
 ·rw [if_pos h1,memB_iff]
  exact ⟨fun h=>⟨fun _=>h,fun h7=>by omega⟩,fun h=>h.1 h1⟩
 ·rw [if_neg h1]
  by_cases h7:t.kind=7
  ·rw [if_pos h7,Bool.and_eq_true,decide_eq_true_eq,decide_eq_true_eq]
   exact ⟨fun h=>⟨fun h'=>absurd h' h1,fun _=>h⟩,fun h=>h.2 h7⟩
  ·rw [if_neg h7]
   exact ⟨fun _=>⟨fun h=>absurd h h1,fun h=>absurd h h7⟩,fun _=>rfl⟩
theorem below_drewN {B:Nat} {w w':World} (h:Below B w w') (n:Nat):Below B w (w'.drewN n):=⟨h.os,h.tape,h.output,h.size,h.block⟩
theorem findF_bd (n:ByteArray) (l:List PLine):∀ i:Nat,findF n i l=-1∨((i:Int)≤findF n i l∧findF n i l<(i:Int)+(l.length:Int)):=by
 induction l with
 | nil=>intro i;exact .inl rfl
 | cons x r ih =>
  intro i;unfold findF;rw [List.length_cons]
  split
  ·exact .inr ⟨Int.le_refl _,by omega⟩
  ·rcases ih (i+1) with h|h
   ·exact .inl h
   ·exact .inr ⟨by omega,by omega⟩
theorem findZ_bd (p:List PLine) (n:ByteArray):findZ p n=-1∨(0≤findZ p n∧findZ p n<(p.length:Int)):=by
 rcases findF_bd n p 0 with h|h
 ·exact .inl h
 ·refine .inr ⟨?_,?_⟩
  ·have:=h.1;unfold findZ;omega
  ·have:=h.2;unfold findZ;omega
set_option maxRecDepth 100000 in
set_option maxHeartbeats 4000000 in
theorem i_known (a:Option Addr) (cap:Nat) (X:List LnL) (av:Option Addr) (cv:Nat) (v:List ByteArray) (t:TokL) (w:World) (hl:X.length≤1048576) (hv:v.length≤3000000) (hr:ReadL 9 147 w a X) (hrv:ReadS w av v) :
  Calls Tryz.prog 168 #[.slice a X.length cap,.slice av v.length cv,.agg #[.int .i64 t.kind,.int .i64 t.num,.string t.name]] w fun e w'=>e=.returned (.bool (knownB (plL X) v t))∧Below w.heap.size w w':=by
 have hb0:=(Below.refl w.heap.size w).alloc (Nat.le_refl _) (.cells #[.int .i64 t.kind,.int .i64 t.num,.string t.name] 147);have X0:=hid (heap_alloc_new w (.cells #[.int .i64 t.kind,.int .i64 t.num,.string t.name] 147));have HCS:=hid (x_containsS av cv v t.name _ (hrv.below hb0) hv);have HFF:=hid (i_findFn a cap X t.name _ (by omega) (hr.below hb0));have HR:=hid (hr.below hb0);have HB0:=hid hb0;have hpl:=plL_length X;have hz:(w.alloc (.cells #[.int .i64 t.kind,.int .i64 t.num,.string t.name] 147)).heap.size=w.heap.size+1:=by simp
 clear hb0 hr hrv;obtain ⟨k,num,nm⟩:=t;dsimp only at X0 HCS HFF HR HB0 hz ⊢
 by_cases h1:k=1
 ·subst h1
  have HV:Hid (knownB (plL X) v ⟨1,num,nm⟩=memB v nm):=hid rfl;generalize memB v nm=b at *;clear HFF HR hpl
  go_enter Tryz.func168,Tryz.ntmps168
  go_wp2_with fail;refine HCS.out.mono ?_;rintro e w1 ⟨rfl,b1⟩;have HB1:Hid (Below w.heap.size w w1):=hid (HB0.out.trans (b1.mono (by omega)));clear b1;go_wp2;go_ret;exact ⟨by rw [HV.out];rfl,HB1.out⟩
 have a1:(k == 1)=false:=by simpa using h1
 by_cases h7:k=7
 ·subst h7
  have HV:Hid (knownB (plL X) v ⟨7,num,nm⟩=(decide (0≤findZ (plL X) nm)&&decide (((argsZ (plL X) (findZ (plL X) nm)).length:Int)=num))):=hid rfl;have HBD:=hid (findZ_bd (plL X) nm);clear HCS
  by_cases h0:0≤findZ (plL X) nm
  ·obtain ⟨j,hj⟩:=Int.eq_ofNat_of_zero_le h0
   have hjX:j<X.length:=by have:=HBD.out;omega
   obtain ⟨g,rfl,hg,⟨_,_,c2,_⟩,hm⟩:=HR.out j hjX;obtain ⟨xa,_,xc,_,ea,_,_,_,_,_⟩:=inMem_shape hm;rw [ea] at c2;have HVV:Hid (knownB (plL X) v ⟨7,num,nm⟩=decide ((X[j].args.length:Int)=num)):=hid (by
    rw [HV.out,hj,argsZ_at X j hjX,decide_eq_true (by omega)];rfl)
   rw [hj] at HFF;generalize X[j].args.length=na at *;have k0:(0:Int)≤(j:Int):=by omega
   have k1:(j:Int)<(X.length:Int):=by omega
   have hd0:decide ((0:Int)≤(j:Int))=true:=decide_eq_true k0;clear hj h0 hm ea HV HBD
   go_enter Tryz.func168,Tryz.ntmps168
   go_wp2_with fail;refine HFF.out.mono ?_;rintro e w1 ⟨rfl,b1⟩;have HB1:Hid (Below w.heap.size w w1):=hid (HB0.out.trans (b1.mono (by omega)));have X1:=hid ((b1.block _ (by omega)).trans X0.out);have e1:w1.cell? ⟨w.heap.size,1,none⟩=some (.int .i64 num):=(blk X1.out).1 1 _ rfl;have d2:w1.cell? ⟨g,j*4+2,none⟩=some (.slice xa na xc):=(b1.cell (p:=⟨g,j*4+2,none⟩) hg).trans c2;clear b1 c2
   by_cases hna:(na:Int)=num
   ·have hdn:((na:Int) == num)=true:=by simpa using hna
    have HW:Hid (knownB (plL X) v ⟨7,num,nm⟩=true):=hid (by rw [HVV.out];exact decide_eq_true hna);clear hna HVV;go_wp2_with fail;go_quiet (fail)
    all_goals
     go_wp2;go_ret;exact ⟨by rw [HW.out];rfl,below_drewN HB1.out _⟩
   ·have hdn:((na:Int) == num)=false:=by simpa using hna
    have HW:Hid (knownB (plL X) v ⟨7,num,nm⟩=false):=hid (by rw [HVV.out];exact decide_eq_false hna);clear hna HVV;go_wp2_with fail;go_quiet (fail)
    all_goals
     go_wp2;go_ret;exact ⟨by rw [HW.out];rfl,below_drewN HB1.out _⟩
  ·have HW:Hid (knownB (plL X) v ⟨7,num,nm⟩=false):=hid (by rw [HV.out,decide_eq_false h0];rfl)
   obtain ⟨r,hr⟩:∃ r,findZ (plL X) nm=r:=⟨_,rfl⟩;rw [hr] at HFF h0;have hd0:decide ((0:Int)≤r)=false:=decide_eq_false h0;clear hr HV HBD HR
   go_enter Tryz.func168,Tryz.ntmps168
   go_wp2_with fail;refine HFF.out.mono ?_;rintro e w1 ⟨rfl,b1⟩;have HB1:Hid (Below w.heap.size w w1):=hid (HB0.out.trans (b1.mono (by omega)));clear b1;go_wp2_with fail;go_quiet (fail)
   all_goals
    go_wp2;go_ret;exact ⟨by rw [HW.out];rfl,below_drewN HB1.out _⟩
 ·have a7:(k == 7)=false:=by simpa using h7
  have HW:Hid (knownB (plL X) v ⟨k,num,nm⟩=true):=hid (by unfold knownB;rw [if_neg h1,if_neg h7]);clear h1 h7 HCS HFF HR
  go_enter Tryz.func168,Tryz.ntmps168
  go_wp2;go_ret;exact ⟨by rw [HW.out];rfl,HB0.out⟩
set_option maxRecDepth 100000 in
set_option maxHeartbeats 1000000 in
theorem i_unknown (a:Option Addr) (cap:Nat) (X:List LnL) (av:Option Addr) (cv:Nat) (v:List ByteArray) (t:TokL) (c1 c5:Nat) (w:World) (hl:X.length≤1048576) (hv:v.length≤3000000) (hr:ReadL 9 147 w a X) (hrv:ReadS w av v)
  (h1:w.cell? ⟨c1,0,none⟩=some (.slice a X.length cap)) (h5:w.cell? ⟨c5,0,none⟩=some (.slice av v.length cv)) (l1:c1<w.heap.size) (l5:c5<w.heap.size) :
  Calls Tryz.prog 167 #[.agg #[.int .i64 t.kind,.int .i64 t.num,.string t.name],.pointer (some ⟨c1,0,none⟩),.pointer (some ⟨c5,0,none⟩)] w fun e w'=>e=.returned (.bool (!knownB (plL X) v t))∧Below w.heap.size w w':=by
 have hb0:=(Below.refl w.heap.size w).alloc (Nat.le_refl _) (.cells #[.int .i64 t.kind,.int .i64 t.num,.string t.name] 147);have HK:=hid (i_known a cap X av cv v t _ hl hv (hr.below hb0) (hrv.below hb0));have e1:=(hb0.cell (p:=⟨c1,0,none⟩) l1).trans h1;have e5:=(hb0.cell (p:=⟨c5,0,none⟩) l5).trans h5;have HB0:=hid hb0;have hz:(w.alloc (.cells #[.int .i64 t.kind,.int .i64 t.num,.string t.name] 147)).heap.size=w.heap.size+1:=by simp
 obtain ⟨r,hrr⟩:∃ r,knownB (plL X) v t=r:=⟨_,rfl⟩;rw [hrr] at HK ⊢;obtain ⟨k,num,nm⟩:=t;dsimp only at HK HB0 hz e1 e5 ⊢;clear hb0 hr hrv hrr h1 h5
 go_enter Tryz.func167,Tryz.ntmps167
 go_wp2_with fail;refine HK.out.mono ?_;rintro e w1 ⟨rfl,b1⟩;have HB1:Hid (Below w.heap.size w w1):=hid (HB0.out.trans (b1.mono (by omega)));clear b1;go_wp2;go_ret;exact ⟨rfl,HB1.out⟩
set_option maxRecDepth 100000 in
set_option maxHeartbeats 2000000 in
theorem i_indexTok (a:Option Addr) (cap:Nat) (X:List LnL) (av:Option Addr) (cv:Nat) (v:List ByteArray) (b:Option Addr) (d:Nat) (ex:List TokL) (c1 c5:Nat) (w:World) (hl:X.length≤1048576) (hv:v.length≤3000000) (hr:ReadL 9 147 w a X) (hrv:ReadS w av v)
  (h1:w.cell? ⟨c1,0,none⟩=some (.slice a X.length cap)) (h5:w.cell? ⟨c5,0,none⟩=some (.slice av v.length cv)) (l1:c1<w.heap.size) (l5:c5<w.heap.size) (hx:ReadT w b ex) (hel:ex.length≤1048576) :
  Calls Tryz.prog 198 #[.slice b ex.length d,.func (.func 167) #[] #[.pointer (some ⟨c1,0,none⟩),.pointer (some ⟨c5,0,none⟩)]] w fun e w'=>e=.returned (.int .i64 (fixI (fun t=>!knownB (plL X) v t) ex))∧Below w.heap.size w w':=by
 have HX:=hid hx;have HU:=hid (fun (W:World) (hb:Below w.heap.size w W) t=>i_unknown a cap X av cv v t c1 c5 W hl hv (hr.below hb) (hrv.below hb) ((hb.cell (p:=⟨c1,0,none⟩) l1).trans h1) ((hb.cell (p:=⟨c5,0,none⟩) l5).trans h5) (by have:=hb.size;omega) (by have:=hb.size;omega));obtain ⟨pb,hpb⟩:∃ pb:TokL→Bool,(fun t=>!knownB (plL X) v t)=pb:=⟨_,rfl⟩;have HU2:Hid (∀ (W:World) (hb:Below w.heap.size w W) t,Calls Tryz.prog 167 #[.agg #[.int .i64 t.kind,.int .i64 t.num,.string t.name],.pointer (some ⟨c1,0,none⟩),.pointer (some ⟨c5,0,none⟩)] W fun e w'=>e=.returned (.bool (pb t))∧Below W.heap.size W w'):=hid (fun W hb t=>by
  have:=HU.out W hb t
  rw [← hpb];exact this)
 rw [hpb];clear hx hr hrv h1 h5 l1 l5 HU hpb
 go_enter Tryz.func198,Tryz.ntmps198
 go_wp2_with fail
 go_loopw [5,8] (fun _ i wr=>∃ q:Nat,q≤ex.length∧i=.int .i64 (q:Int)∧Hid (∀ j,∀ h:j<ex.length,j<q→pb ex[j]=false)∧Below w.heap.size w wr) (fun _ i _=>ex.length - (RowKit.intOf i).toNat)
 case atStart=>exact ⟨0,Nat.zero_le _,rfl,hid (fun j _ h=>by omega),Below.refl _ _⟩
 case round =>
  obtain ⟨q,hq,rfl,HE,hbel⟩:=hrel;have HB:=hid hbel;have hB:=hbel.size
  by_cases hlt:q<ex.length
  ·obtain ⟨g,rfl,hg,c0,c1',c2⟩:=(HX.out.below hbel) q hlt
   have HAT:=hid (fun h=>fixI_at pb ex q hlt h (fun i hi=>HE.out i (by omega) hi));have HNX:=hid (fun (h:pb ex[q]=false)=>show ∀ j,∀ h:j<ex.length,j<q+1→pb ex[j]=false from fun j hj hjq=>by
    by_cases hjj:j=q
    ·subst hjj;exact h
    ·exact HE.out j hj (by omega))
   have HF:=hid (HU2.out wr hbel ex[q]);obtain ⟨r,hrr⟩:∃ r,pb ex[q]=r:=⟨_,rfl⟩;rw [hrr] at HF HAT HNX;obtain ⟨t,ht⟩:∃ t,ex[q]=t:=⟨_,rfl⟩;rw [ht] at c0 c1' c2 HF;obtain ⟨k,num,nm⟩:=t;dsimp only at c0 c1' c2 HF;have k0:(0:Int)≤(q:Int):=by omega
   have k1:(q:Int)<(ex.length:Int):=by omega
   clear hbel hrr ht
   cases r
   ·have HN:=hid (HNX.out rfl)
    clear HAT HNX;go_wp2_with fail;refine HF.out.mono ?_;rintro e w1 ⟨rfl,b1⟩;have HB1:Hid (Below w.heap.size w w1):=hid (HB.out.trans (b1.mono hB));clear b1 c0 c1' c2;go_wp2;go_roundw
    case rel=>exact ⟨q+1,by omega,by go_num,HN,HB1.out⟩
    case measure=>simp [RowKit.intOf];omega
   ·have HV:=hid (HAT.out rfl)
    clear HAT HNX;go_wp2_with fail;refine HF.out.mono ?_;rintro e w1 ⟨rfl,b1⟩;have HB1:Hid (Below w.heap.size w w1):=hid (HB.out.trans (b1.mono hB));clear b1 c0 c1' c2;go_wp2;go_ret;exact ⟨by rw [HV.out];rfl,HB1.out⟩
  ·have HV:=hid (fixI_none pb ex (fun j hj=>HE.out j hj (by omega)))
   have hqq:q=ex.length:=by omega
   subst hqq;clear hbel;go_wp2;go_ret;exact ⟨by rw [HV.out];rfl,HB.out⟩
set_option maxHeartbeats 1000000 in
theorem x_containsTok (a:Option Addr) (cap:Nat) (X:List LnL) (av:Option Addr) (cv:Nat) (v:List ByteArray) (b:Option Addr) (d:Nat) (ex:List TokL) (c1 c5:Nat) (w:World) (hl:X.length≤1048576) (hv:v.length≤3000000) (hr:ReadL 9 147 w a X) (hrv:ReadS w av v)
  (h1:w.cell? ⟨c1,0,none⟩=some (.slice a X.length cap)) (h5:w.cell? ⟨c5,0,none⟩=some (.slice av v.length cv)) (l1:c1<w.heap.size) (l5:c5<w.heap.size) (hx:ReadT w b ex) (hel:ex.length≤1048576) :
  Calls Tryz.prog 166 #[.slice b ex.length d,.func (.func 167) #[] #[.pointer (some ⟨c1,0,none⟩),.pointer (some ⟨c5,0,none⟩)]] w fun e w'=>e=.returned (.bool (!ex.all (knownB (plL X) v)))∧Below w.heap.size w w':=by
 have HC:=hid (i_indexTok a cap X av cv v b d ex c1 c5 w hl hv hr hrv h1 h5 l1 l5 hx hel);have HM:Hid (decide (0≤fixI (fun t=>!knownB (plL X) v t) ex)=!ex.all (knownB (plL X) v)):=hid (by
  rw [fixI_any,← Bool.not_inj_iff,Bool.not_not,List.not_any_eq_all_not]
  congr 1
  funext x
  rw [Bool.not_not])
 clear hr hrv h1 h5 hx l1 l5
 go_enter Tryz.func166,Tryz.ntmps166
 go_wp2_with fail;refine HC.out.mono ?_;rintro e w1 ⟨rfl,b1⟩;have HB:=hid b1;clear b1;generalize fixI (fun t=>!knownB (plL X) v t) ex=r at *;go_wp2;go_ret;exact ⟨ret_b HM.out,HB.out⟩
end Go.Proofs.YtcflojdkaddemaaGreatDoor

namespace Go.Proofs.YtcflojdkaddemaaGreatDoor
open Go.RowKit Go.Lib
theorem locF_le (l:List PLine):∀ v,(locF v l).length≤v.length+l.length:=by
 induction l with
 | nil=>intro v;exact Nat.le_refl _
 | cons x r ih =>
  intro v;unfold locF;rw [List.length_cons]
  split
  ·have:=ih (v++[x.name]);rw [List.length_append] at this;simp at this;omega
  ·have:=ih v;omega
theorem locZ_le (X:List LnL) (k:Nat) (h:k<X.length) (hz:X[k].args.length≤1048576) (hl:X.length≤1048576):(locZ (plL X) (k:Int)).length≤2097152:=by
 unfold locZ
 split
 ·rw [argsZ_at X k h]
  have h1:=locF_le (((plL X).drop (k:Int).toNat).take ((beZ (plL X) (k:Int)).toNat - (k:Int).toNat)) X[k].args;have h3:(((plL X).drop (k:Int).toNat).take ((beZ (plL X) (k:Int)).toNat - (k:Int).toNat)).length≤X.length:=by rw [List.length_take,List.length_drop,plL_length];omega
  omega
 ·exact Nat.zero_le _
def namesT (p:List PLine) (q:Nat):Prop:=∀ i,∀ h:i<(funs p).length,i<q→namesAt p (funs p)[i]
theorem namesT_all (p:List PLine):namesT p (funs p).length↔∀ k ∈ funs p,namesAt p k:=by
 constructor
 ·intro hu k hk
  obtain ⟨i,hi,rfl⟩:=List.mem_iff_getElem.1 hk;exact hu i hi hi
 ·intro hu i hi _
  exact hu _ (List.getElem_mem hi)
def lineK (p:List PLine) (v:List ByteArray) (S:List PLine):Prop:=∀ x ∈ S,∀ t ∈ x.expr,knownP p v t
theorem lineK_all (p:List PLine) (v:List ByteArray) (ex:List TokL):ex.all (knownB p v)=true↔∀ t ∈ ex,knownP p v t:=by
 rw [List.all_eq_true];exact ⟨fun h t ht=>(knownB_iff p v t).1 (h t ht),fun h t ht=>(knownB_iff p v t).2 (h t ht)⟩
set_option maxRecDepth 100000 in
set_option maxHeartbeats 8000000 in
theorem i_names (a:Option Addr) (cap:Nat) (X:List LnL) (w:World) (hl:X.length≤1048576) (hcap:X.length≤cap) (hr:ReadL 9 147 w a X) (hz:SzAl X) (hend:∀ k ∈ funs (plL X),0≤beZ (plL X) (k:Int)) :
  Calls Tryz.prog 123 #[.slice a X.length cap] w (Ans (∀ k ∈ funs (plL X),namesAt (plL X) k) w):=by
 have hb0:=(Below.refl w.heap.size w).alloc (Nat.le_refl _) (.cells #[.slice a X.length cap] 24);have X0:=hid (heap_alloc_new w (.cells #[.slice a X.length cap] 24));have HB0:=hid hb0;have hz0:(w.alloc (.cells #[.slice a X.length cap] 24)).heap.size=w.heap.size+1:=by simp
 have HR:=hid hr;have HZ:=hid hz;have HEND:=hid hend;have hpl:=plL_length X;have HF:=hid (i_funLines a cap X _ hl (hr.below hb0));have HLO:=hid (fun (W:World) (hb:Below w.heap.size w W) k=>i_localsOf a cap X k W hl hcap (hr.below hb) (fun x hx=>(hz x hx).2.1));have HE:=hid (fun (W:World) (hb:Below w.heap.size w W) k=>i_endOf a cap X k W (by omega) (hr.below hb));clear hr hz hend hb0
 go_enter Tryz.func123,Tryz.ntmps123
 go_wp2_with fail;refine HF.out.mono ?_;rintro e w1 ⟨v,rfl,hown,b1⟩;obtain ⟨av,cv,rfl⟩:=owns3_shape hown;have HRI:=hid (readI_of hown);have HB1:Hid (Below w.heap.size w w1):=hid (HB0.out.trans (b1.mono (by omega)));have X1:=hid ((b1.block _ (by omega)).trans X0.out);have z1:=b1.size;rw [hz0] at z1;have hfl:=funI_length (plL X);obtain ⟨F,hF⟩:∃ F,funI (plL X)=F:=⟨_,rfl⟩;have HFG:=hid (fun i h=>funI_get (plL X) i h);rw [hF] at HRI hfl HFG;obtain ⟨n,hn⟩:∃ n,F.length=n:=⟨_,rfl⟩;have HNN:=hid hn;rw [hF,hn];rw [hn] at hfl;have HNF:=hid hfl;have hnn:n≤1048576:=by
  have h2:(funs (plL X)).length≤(plL X).length:=by
   have hh:∀ (l:List PLine) i,(funF i l).length≤l.length:=by
    intro l
    induction l with
    | nil=>intro i;exact Nat.le_refl _
    | cons x r ih =>
     intro i
     have:=ih (i+1)
     unfold funF
     split
     ·rw [List.length_cons,List.length_cons];omega
     ·rw [List.length_cons];omega
   exact hh _ 0
  omega
 have HT:Hid (namesT (plL X) n↔∀ k ∈ funs (plL X),namesAt (plL X) k):=hid (by rw [hfl];exact namesT_all _);clear b1 hown hF hn HF hfl X0;go_wp2_with fail
 go_loopw [4,5,7,11,28] (fun _ _ _ i _ wr=>∃ q:Nat,q≤n∧i=.int .i64 (q:Int)∧Hid (namesT (plL X) q)∧Below w.heap.size w wr∧Below w1.heap.size w1 wr) (fun _ _ _ i _ _=>n - (RowKit.intOf i).toNat)
 case atStart=>exact ⟨0,Nat.zero_le _,rfl,hid (fun i _ h=>by omega),HB1.out,Below.refl _ _⟩
 case round =>
  obtain ⟨q,hq,rfl,HP,hbel,hbel1⟩:=hrel;have HB:=hid hbel;have HC:=hid hbel1;have hB:=hbel.size;have hC:=hbel1.size
  by_cases hlt:q<n
  ·have hqF:q<F.length:=by rw [HNN.out];exact hlt
   obtain ⟨gv,rfl,hgv,c0⟩:=(HRI.out.below hbel1) q hqF;obtain ⟨hq',hget⟩:=HFG.out q hqF;rw [hget] at c0;have hklt:=funs_lt (plL X) q hq';have hE0:=HEND.out _ (List.getElem_mem hq');have HPN:=hid (fun (h:namesAt (plL X) (funs (plL X))[q])=>show namesT (plL X) (q+1) from fun i hi hiq=>by
    by_cases hiq':i=q
    ·subst hiq';exact h
    ·exact HP.out i hi (by omega))
   have HPX:=hid (fun (h:∀ k ∈ funs (plL X),namesAt (plL X) k)=>h _ (List.getElem_mem hq'));obtain ⟨k,hk⟩:∃ k,(funs (plL X))[q]=k:=⟨_,rfl⟩;rw [hk] at c0 hklt HPN HPX hE0;have hkX:k<X.length:=by omega
   obtain ⟨g,ha,hg,_⟩:=HR.out k hkX;subst ha;have k0:(0:Int)≤(q:Int):=by omega
   have k1:(q:Int)<(n:Int):=by omega
   have hkEl:(k:Int)<beZ (plL X) (k:Int)∧beZ (plL X) (k:Int)<((plL X).length:Int):=by
    obtain ⟨_,h1,_,_,h2,h3⟩:=beZ_is (plL X) (k:Int) hE0;exact ⟨by omega,h3⟩
   obtain ⟨hkE',hEl⟩:=hkEl;obtain ⟨E,hE⟩:=Int.eq_ofNat_of_zero_le hE0;rw [hE] at hEl hkE';have X1r:=hid ((hbel1.block _ (by omega)).trans X1.out);have e1:wr.cell? ⟨w.heap.size,0,none⟩=some (.slice (some ⟨g,0,none⟩) X.length cap):=(blk X1r.out).1 0 _ rfl;have hlen2:=locZ_le X k hkX (HZ.out _ (List.getElem_mem hkX)).2.1 hl;have HLK:=hid (HLO.out wr hbel k);have HEK:Hid (∀ (W:World),Below w.heap.size w W→Calls Tryz.prog 163 #[.slice (some ⟨g,0,none⟩) X.length cap,.int .i64 (k:Int)] W fun e w'=>e=.returned (.int .i64 (E:Int))∧Below W.heap.size W w'):=hid (fun W hb=>by have:=HE.out W hb k;rw [hE] at this;exact this);have HNA:Hid (namesAt (plL X) k↔((locZ (plL X) (k:Int)).length≤8∧lineK (plL X) (locZ (plL X) (k:Int)) (segZ (plL X) k E))):=hid (by unfold namesAt lineK;rw [hE];rfl);obtain ⟨L,hL⟩:∃ L,locZ (plL X) (k:Int)=L:=⟨_,rfl⟩;rw [hL] at HNA HLK hlen2;clear hk hE hL hget hqF hq' hbel hbel1 hklt hE0;go_wp2_with fail;refine HLK.out.mono ?_;rintro e w2 ⟨vl,rfl,hownl,b2⟩;obtain ⟨al,cl,rfl⟩:=owns_shape hownl;have HB2:Hid (Below w.heap.size w w2):=hid (HB.out.trans (b2.mono hB));have HC2:Hid (Below w1.heap.size w1 w2):=hid (HC.out.trans (b2.mono hC));have z2:=b2.size;have hba:=(Below.refl w2.heap.size w2).alloc (Nat.le_refl _) (.cells #[.slice al L.length cl] 84);have HB3:Hid (Below w.heap.size w (w2.alloc (.cells #[.slice al L.length cl] 84))):=hid (HB2.out.trans (hba.mono (by omega)));have HC3:Hid (Below w1.heap.size w1 (w2.alloc (.cells #[.slice al L.length cl] 84))):=hid (HC2.out.trans (hba.mono (by omega)));have X3:=hid (heap_alloc_new w2 (.cells #[.slice al L.length cl] 84));have RS3:=hid (reads_of (hownl.alloc (.cells #[.slice al L.length cl] 84)));have tz3:(w2.alloc (.cells #[.slice al L.length cl] 84)).heap.size=w2.heap.size+1:=by simp
   obtain ⟨W3,hW3⟩:∃ W,w2.alloc (.cells #[.slice al L.length cl] 84)=W:=⟨_,rfl⟩;rw [hW3] at HB3 HC3 X3 RS3 tz3;have HW3:=hid hW3;have X13:=hid ((HC3.out.block _ (by omega)).trans X1.out);clear b2 hownl hba HLK c0 e1 X1r hW3;have e1:W3.cell? ⟨w.heap.size,0,none⟩=some (.slice (some ⟨g,0,none⟩) X.length cap):=(blk X13.out).1 0 _ rfl;have e5:W3.cell? ⟨w2.heap.size,0,none⟩=some (.slice al L.length cl):=(blk X3.out).1 0 _ rfl;go_upto_region 5 with fail;rw [HW3.out]
   by_cases h8:8<L.length
   ·have HV:Hid (¬ ∀ k ∈ funs (plL X),namesAt (plL X) k):=hid (fun h=>by have:=(HNA.out.1 (HPX.out h)).1;omega)
    have hd:decide (8<(L.length:Int))=true:=decide_eq_true (by omega);go_wp2;go_ret;exact Ans.of false rfl (by simpa using HV.out) HB3.out
   ·have hd:decide (8<(L.length:Int))=false:=decide_eq_false (by omega)
    have HNL:Hid (namesAt (plL X) k↔lineK (plL X) L (segZ (plL X) k E)):=hid (by rw [HNA.out];exact ⟨fun h=>h.2,fun h=>⟨by omega,h⟩⟩);have m1:w.heap.size<W3.heap.size:=by omega
    have k5:(E:Int)≤(cap:Int):=by omega
    have k6:(k:Int)≤(E:Int):=by omega
    have eE:(E:Int) - (k:Int)=((E - k:Nat):Int):=by omega
    have HE1:=hid e1;go_wp2_with fail
    go_region_held3 (fun w'=>w'.cell? ⟨w.heap.size,0,none⟩=some (.slice (some ⟨g,0,none⟩) X.length cap)) (first|go_keep|(exact (b4.cell (p:=⟨w.heap.size,0,none⟩) m1).trans HE1.out)) (first
     | (go_at_call 163;refine (HEK.out _ ?_).mono ?_;exact HB3.out.drew;rintro e w4 ⟨rfl,b4⟩))
    all_goals
     have HC4:Hid (Below W3.heap.size W3 w4):=hid (undrew b4);have z4:=HC4.out.size;clear b4;go_wp2_with fail
     go_loopw [7,28] (fun _ i wx=>∃ d:Nat,d≤E - k∧i=.int .i64 (d:Int)∧Hid (lineK (plL X) L (segZ (plL X) (k+d) E)↔lineK (plL X) L (segZ (plL X) k E))∧Below W3.heap.size W3 wx) (fun _ i _=>(E - k) - (RowKit.intOf i).toNat)
     case atStart=>exact ⟨0,Nat.zero_le _,rfl,hid (by rw [Nat.add_zero]),HC4.out⟩
     case round =>
      rename World=>wx
      obtain ⟨d,hdE,rfl,HQ,hbx⟩:=hrel;have HBX:=hid hbx;have hBX:=hbx.size;have HWX:Hid (Below w.heap.size w wx):=hid (HB3.out.trans (hbx.mono (by omega)))
      by_cases hltd:d<E - k
      ·have hqx:k+d<X.length:=by omega
       have hqp:k+d<(plL X).length:=by omega
       obtain ⟨g',hga,hg',⟨c0,c1,c2,c3⟩,hm⟩:=(HR.out.below HWX.out) (k+d) hqx;injection hga with hga
       injection hga with hga
       subst hga;have hxz:=HZ.out _ (List.getElem_mem hqx);have HST:Hid (((∀ t ∈ X[k+d].expr,knownP (plL X) L t)∧lineK (plL X) L (segZ (plL X) (k+(d+1)) E))↔lineK (plL X) L (segZ (plL X) k E)):=hid (by
        rw [← HQ.out,seg_next _ (k+d) E (by omega) hqp,pl_at X (k+d) hqx];unfold lineK
        constructor
        ·rintro ⟨h1,h2⟩ x hx
         rcases List.mem_cons.1 hx with rfl|hx
         ·exact h1
         ·exact h2 x hx
        ·intro h
         exact ⟨h _ (List.mem_cons_self ..),fun x hx=>h x (List.mem_cons_of_mem _ hx)⟩)
       obtain ⟨xa,xb,xc,xd,ea,ee,_,rt,_,_⟩:=inMem_shape hm;rw [ea] at c2;rw [ee] at c3;rw [show (k+d)*4=k*4+d*4 from by omega] at c0 c1 c2 c3;have hel:X[k+d].expr.length≤1048576:=hxz.2.2.2.1;have HLA:=hid (lineK_all (plL X) L X[k+d].expr);have k3:(0:Int)≤(d:Int):=by omega
       have k4:(d:Int)<((E - k:Nat):Int):=by omega
       generalize X[k+d].kind=kd at *;generalize X[k+d].name=nm at *;generalize X[k+d].args.length=na at *;generalize X[k+d].expr=ex at *;have hb5:=(Below.refl wx.heap.size wx).alloc (Nat.le_refl _) (.cells #[.int .i64 kd,.string nm,.slice xa na xc,.slice xb ex.length xd] 87);have HB5:Hid (Below W3.heap.size W3 (wx.alloc (.cells #[.int .i64 kd,.string nm,.slice xa na xc,.slice xb ex.length xd] 87))):=hid (hbx.trans (hb5.mono hBX));have zr:(wx.alloc (.cells #[.int .i64 kd,.string nm,.slice xa na xc,.slice xb ex.length xd] 87)).heap.size=wx.heap.size+1:=by simp
       have HCT:=hid (x_containsTok (some ⟨g,0,none⟩) cap X al cl L xb xd ex w.heap.size w2.heap.size _ hl (by omega) ((HR.out.below HWX.out).below hb5) (RS3.out.below HB5.out) ((HB5.out.cell (p:=⟨w.heap.size,0,none⟩) m1).trans HE1.out) ((HB5.out.cell (p:=⟨w2.heap.size,0,none⟩) (by show w2.heap.size<W3.heap.size;omega)).trans e5) (by omega) (by omega) (rt.below hb5) hel);obtain ⟨b,hb⟩:∃ b,ex.all (knownB (plL X) L)=b:=⟨_,rfl⟩;rw [hb] at HCT HLA;clear hm ea ee rt hxz hb5 hbx hb HQ
       cases b
       ·have HV:Hid (¬ ∀ k ∈ funs (plL X),namesAt (plL X) k):=hid (fun h=>by
         have h1:=(HST.out.2 (HNL.out.1 (HPX.out h))).1;have h2:=HLA.out.2 h1
         cases h2)
        clear HST HLA;go_wp2_with fail;refine HCT.out.mono ?_;rintro e w6 ⟨rfl,b6⟩;have HB6:Hid (Below w.heap.size w w6):=hid (HB3.out.trans ((HB5.out.trans (b6.mono (by omega))).mono (by omega)));clear b6 c0 c1 c2 c3;go_wp2;go_ret;exact Ans.of false rfl (by simpa using HV.out) HB6.out
       ·have HN:Hid (lineK (plL X) L (segZ (plL X) (k+(d+1)) E)↔lineK (plL X) L (segZ (plL X) k E)):=hid (by
         rw [← HST.out];exact ⟨fun h=>⟨HLA.out.1 rfl,h⟩,fun h=>h.2⟩)
        clear HST HLA;go_wp2_with fail;refine HCT.out.mono ?_;rintro e w6 ⟨rfl,b6⟩;have HB6:Hid (Below W3.heap.size W3 w6):=hid (HB5.out.trans (b6.mono (by omega)));clear b6 c0 c1 c2 c3;go_wp2;go_roundw
        case rel=>exact ⟨d+1,by omega,by go_num,HN,HB6.out⟩
        case measure=>simp [RowKit.intOf];omega
      ·have hdd:d=E - k:=by omega
       have HNX:Hid (namesT (plL X) (q+1)):=hid (HPN.out (HNL.out.2 (HQ.out.1 (by
        rw [hdd,show k+(E - k)=E from by omega,seg_end];intro x hx
        cases hx))))
       have HBE:Hid (Below w1.heap.size w1 wx):=hid (HC3.out.trans (hbx.mono (by omega)));clear hbx HQ hdd;go_wp2;go_roundw
       case rel=>exact ⟨q+1,by omega,by go_num,HNX,HWX.out,HBE.out⟩
       case measure=>simp [RowKit.intOf];omega
  ·have hqq:q=n:=by omega
   have HV:Hid (∀ k ∈ funs (plL X),namesAt (plL X) k):=hid (HT.out.1 (hqq▸HP.out));subst hqq;clear hbel hbel1 HP;go_wp2;go_ret;exact Ans.of true rfl (by simpa using HV.out) HB.out
end Go.Proofs.YtcflojdkaddemaaGreatDoor
