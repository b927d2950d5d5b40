/- Parts of the proof. -/
import Derived.Test.YtcflojdkaddemaaGreatDoorI25
import Derived.Test.YtcflojdkaddemaaGreatDoorI24
namespace Go.Proofs.YtcflojdkaddemaaGreatDoor
open Go.RowKit Go.Lib
set_option maxHeartbeats 400000 in
theorem s_has (k:Int) (w:World):Calls Tryz.prog 109 #[.int .i64 k] w fun e w'=>e=.returned (.bool (exprK k))∧w=w':=by
 by_cases h0:k=0
 ·subst h0
  go_enter Tryz.func109,Tryz.ntmps109
  go_wp2;go_ret;exact ⟨ret_b rfl,rfl⟩
 by_cases h4:k=4
 ·subst h4
  go_enter Tryz.func109,Tryz.ntmps109
  go_wp2;go_ret;exact ⟨ret_b rfl,rfl⟩
 have a0:(k != 0)=true:=by simpa using h0
 have a4:(k != 4)=true:=by simpa using h4
 by_cases h7:k=7
 ·subst h7
  go_enter Tryz.func109,Tryz.ntmps109
  go_wp2;go_ret;exact ⟨ret_b rfl,rfl⟩
 have a7:(k != 7)=true:=by simpa using h7
 have HV:Hid (exprK k=true):=hid (by unfold exprK;rw [decide_eq_false h0,decide_eq_false h4,decide_eq_false h7];rfl);clear h0 h4 h7
 go_enter Tryz.func109,Tryz.ntmps109
 go_wp2;go_ret;exact ⟨ret_b HV.out.symm,rfl⟩
theorem af_big (b:Bool) (l:List ByteArray) (h:4<l.length):afB b l=false:=by
 cases hb:afB b l with
 | false=>rfl
 | true=>have:=(af_small b l hb).1;omega
theorem line_af (p:PLine) (h:afB (decide (p.kind=0)) p.args=false):lineB p=false:=by
 cases hb:lineB p with
 | false=>rfl
 | true=>have:=((lineB_iff p).1 hb).2.2.1;rw [h] at this;cases this
theorem line_nf (p:PLine) (h:nfB (namedB p.kind) p.name=false):lineB p=false:=by
 cases hb:lineB p with
 | false=>rfl
 | true=>have:=((lineB_iff p).1 hb).2.1;rw [h] at this;cases this
theorem line_ef (p:PLine) (h0:0≤p.kind) (h7:p.kind≤7) (h1:nfB (namedB p.kind) p.name=true) (h2:afB (decide (p.kind=0)) p.args=true):lineB p=efB (exprK p.kind) p.expr:=by
 unfold lineB;rw [decide_eq_true h0,decide_eq_true h7,h1,h2];rfl
theorem af_diff (l:List ByteArray) (h:diffB l=false):afB true l=false:=by
 unfold afB;rw [if_pos rfl,h,Bool.and_false]
theorem af_some (b:Bool) (l:List ByteArray) (hb:b=false) (h:0<l.length):afB b l=false:=by
 subst hb;unfold afB;rw [if_neg (by decide)];exact decide_eq_false (by omega)
set_option maxRecDepth 100000 in
set_option maxHeartbeats 4000000 in
theorem s_lineok (p:PLine) (a b:Option Addr) (c d:Nat) (w:World) (hA:ReadS w a p.args) (hT:ReadT w b p.expr) (l1:p.args.length≤2000000) (l2:∀ s ∈ p.args,s.size≤maxLen) (l3:p.name.size≤maxLen) (l4:p.expr.length≤1048576) (l5:NamesT p.expr) :
  Calls Tryz.prog 51 #[.agg #[.int .i64 p.kind,.string p.name,.slice a p.args.length c,.slice b p.expr.length d]] w fun e w'=>e=.returned (.bool (lineB p))∧Below w.heap.size w w':=by
 by_cases hk:p.kind<0∨7<p.kind
 ·have HV:=hid (lineB_out p hk)
  have hd:(decide (0≤p.kind)&&decide (p.kind≤7))=false:=by
   rcases hk with h|h
   ·rw [decide_eq_false (by omega)];rfl
   ·rw [decide_eq_false (by omega:¬ p.kind≤7),Bool.and_false]
  have S:=hid (fun W=>hd▸s_in p.kind 0 7 W);obtain ⟨k,nm,gs,ex⟩:=p;dsimp only at HV S ⊢;clear hA hT hd hk l1 l2 l3 l4 l5
  go_enter Tryz.func51,Tryz.ntmps51
  go_wp2_with fail;refine (S.out _).mono ?_;rintro e w' ⟨rfl,rfl⟩;go_wp2;go_ret;exact ⟨ret_b HV.out.symm,(Below.refl _ _).alloc (Nat.le_refl _) _⟩
 have hk0:0≤p.kind:=by omega
 have hk7:p.kind≤7:=by omega
 have S:=hid (fun W=>(show (decide (0≤p.kind)&&decide (p.kind≤7))=true by rw [decide_eq_true hk0,decide_eq_true hk7];rfl)▸s_in p.kind 0 7 W)
 by_cases h4:4<p.args.length
 ·have HV:=hid (line_af p (af_big _ _ h4))
  obtain ⟨k,nm,gs,ex⟩:=p;dsimp only at HV S h4 l1 ⊢;have hd:decide (4<(gs.length:Int))=true:=decide_eq_true (by omega);clear hA hT hk h4 l2 l3 l4 l5
  go_enter Tryz.func51,Tryz.ntmps51
  go_wp2_with fail;refine (S.out _).mono ?_;rintro e w' ⟨rfl,rfl⟩;go_wp2;go_ret;exact ⟨ret_b HV.out.symm,(Below.refl _ _).alloc (Nat.le_refl _) _⟩
 have AF:=hid (line_af p);have NF:=hid (line_nf p);have EF:=hid (line_ef p hk0 hk7);obtain ⟨k,nm,gs,ex⟩:=p;dsimp only at S AF NF EF h4 l1 l2 l3 l4 l5 hA hT hk0 hk7 ⊢;have hd:decide (4<(gs.length:Int))=false:=decide_eq_false (by omega);have HR:=hid hA;have HT:=hid hT;have HZ:=hid l2;have HN5:=hid l5;clear hA hT hk l2 l5;have hb0:Below w.heap.size w (w.alloc (.cells #[.int .i64 k,.string nm,.slice a gs.length c,.slice b ex.length d] 87)):=(Below.refl _ _).alloc (Nat.le_refl _) _;have HR0:=hid (HR.out.below hb0);have HT0:=hid (HT.out.below hb0);have HB0:=hid hb0;clear hb0
 go_enter Tryz.func51,Tryz.ntmps51
 go_wp2_with fail;refine (S.out _).mono ?_;rintro e w' ⟨rfl,rfl⟩;go_wp2_with fail
 go_loopw [3,4] (fun i _ wr=>∃ (j q:Nat),j≤gs.length∧i=.int .i64 (j:Int)∧Hid (diffB (gs.take j)=true∧(0<j→k=0))∧wr=(w.alloc (.cells #[.int .i64 k,.string nm,.slice a gs.length c,.slice b ex.length d] 87)).drewN q) (fun i _ _=>gs.length - (RowKit.intOf i).toNat)
 case atStart=>exact ⟨0,0,Nat.zero_le _,rfl,hid ⟨rfl,fun h=>absurd h (by omega)⟩,rfl⟩
 case round =>
  obtain ⟨j,q,hj,rfl,HD,rfl⟩:=hrel
  by_cases hlt:j<gs.length
  ·obtain ⟨g,rfl,c0⟩:=HR0.out j hlt
   have NX:=hid (diffB_next gs j hlt HD.out.1);have BD:=hid (diffB_bad gs j hlt);have hsz:=HZ.out _ (List.getElem_mem hlt);have HAF:Hid (k≠0→lineB ⟨k,nm,gs,ex⟩=false):=hid (fun h=>AF.out (af_some _ _ (decide_eq_false h) (by omega)));have HAD:Hid (k=0→diffB gs=false→lineB ⟨k,nm,gs,ex⟩=false):=hid (fun h hd=>AF.out (by rw [decide_eq_true h];exact af_diff _ hd));obtain ⟨y,hy⟩:∃ y,gs[j]=y:=⟨_,rfl⟩;rw [hy] at c0 NX BD hsz;have HY:=hid hy;have HN:=hid (fun W=>s_name y W hsz);have k0:(0:Int)≤(j:Int):=by omega
   have k1:(j:Int)<(gs.length:Int):=by omega
   clear hy hsz
   cases hb:nameB y with
   | false =>
    have HV:Hid (lineB ⟨k,nm,gs,ex⟩=false):=hid (by
     by_cases h:k=0
     ·exact HAD.out h (BD.out (.inl hb))
     ·exact HAF.out h)
    rw [hb] at HN;clear hb NX BD;go_wp2_with fail;refine (HN.out _).mono ?_;rintro e w' ⟨rfl,rfl⟩;go_wp2;go_ret;exact ⟨ret_b HV.out.symm,below_drewN HB0.out q⟩
   | true =>
    rw [hb] at HN
    by_cases hkz:k=0
    ·subst hkz
     have BM:=hid (fun h=>HAD.out rfl (BD.out (.inr h)));have NY:=hid (NX.out hb);clear hb NX BD HAF HAD;go_wp2_with fail;refine (HN.out _).mono ?_;rintro e w' ⟨rfl,rfl⟩;go_wp2_with fail
     go_loopw [4] (fun i wr=>∃ (m t:Nat),m≤j∧i=.int .i64 (m:Int)∧Hid (y ∉ gs.take m)∧wr=(w.alloc (.cells #[.int .i64 0,.string nm,.slice (some ⟨g,0,none⟩) gs.length c,.slice b ex.length d] 87)).drewN t) (fun i _=>j - (RowKit.intOf i).toNat)
     case atStart=>exact ⟨0,q,Nat.zero_le _,rfl,hid (by simp),rfl⟩
     case round =>
      obtain ⟨m,t,hm,rfl,HX,rfl⟩:=hrel
      by_cases hmj:m<j
      ·have hml:m<gs.length:=by omega
       obtain ⟨g2,hg2,c2⟩:=HR0.out m hml;injection hg2 with hg2
       injection hg2 with hg2
       subst hg2;have NZ:=hid (not_next gs y m hml HX.out);have YM:Hid (∀ z,gs[m]=z→z ∈ gs.take j):=hid (fun z hz=>by
        rw [← hz];exact List.mem_take_iff_getElem.2 ⟨m,by omega,rfl⟩)
       obtain ⟨z,hz⟩:∃ z,gs[m]=z:=⟨_,rfl⟩;rw [hz] at c2 NZ;have YZ:=hid (YM.out z hz);have m0:(0:Int)≤(m:Int):=by omega
       have m1:(m:Int)<(gs.length:Int):=by omega
       have m2:(m:Int)<(j:Int):=by omega
       clear hz hml YM
       by_cases hzy:z=y
       ·subst hzy
        have HV:=hid (BM.out YZ.out);clear NZ;go_wp2_with fail;go_quiet (fail);go_wp2;go_ret;exact ⟨ret_b HV.out.symm,below_drewN (below_drewN HB0.out t) _⟩
       ·have hsf:=str_ne z y hzy
        have NW:=hid (NZ.out (fun e=>hzy e.symm));clear hzy NZ;go_wp2_with fail;go_quiet (fail);go_wp2;go_roundw
        case rel=>exact ⟨m+1,_,by omega,by go_num,NW,rfl⟩
        case measure=>simp [RowKit.intOf];omega
      ·have hme:m=j:=by omega
       subst hme;have HNX:=hid (NY.out HX.out);clear hmj;go_wp2;go_roundw
       case rel=>exact ⟨m+1,t,by omega,by go_num,hid ⟨HNX.out,fun _=>by trivial⟩,rfl⟩
       case measure=>simp [RowKit.intOf];omega
    ·have HV:=hid (HAF.out hkz)
     have a0:(k != 0)=true:=by simpa using hkz
     clear hb NX BD hkz HAF HAD;go_wp2_with fail;refine (HN.out _).mono ?_;rintro e w' ⟨rfl,rfl⟩;go_wp2;go_ret;exact ⟨ret_b HV.out.symm,below_drewN HB0.out q⟩
  ·have hjl:j=gs.length:=by omega
   have HDA:Hid (diffB gs=true∧(0<gs.length→k=0)):=hid (by
    have h:=HD.out
    rwa [List.take_of_length_le (by omega),hjl] at h)
   have HAT:Hid (afB (decide (k=0)) gs=true):=hid (by
    by_cases h:k=0
    ·rw [decide_eq_true h];unfold afB;rw [if_pos rfl,HDA.out.1,decide_eq_true (by omega:gs.length≤4)];rfl
    ·rw [decide_eq_false h];unfold afB;rw [if_neg (by decide)]
     refine decide_eq_true ?_
     rcases Nat.eq_zero_or_pos gs.length with h0|h0
     ·exact h0
     ·exact absurd (HDA.out.2 h0) h)
   have HNM:=hid (fun W=>s_name nm W l3);obtain ⟨NB,hNB⟩:∃ x,nameB nm=x:=⟨_,rfl⟩;have HNB:=hid hNB;rw [hNB] at HNM;clear hNB HDA HD hjl AF
   by_cases hk0':k=0
   ·subst hk0'
    cases NB with
    | false =>
     have HV:Hid (lineB ⟨0,nm,gs,ex⟩=false):=hid (NF.out HNB.out);go_wp2_with fail;refine (HNM.out _).mono ?_;rintro e w' ⟨rfl,rfl⟩;go_wp2;go_ret;exact ⟨ret_b HV.out.symm,below_drewN HB0.out q⟩
    | true =>
     have HE:Hid (lineB ⟨0,nm,gs,ex⟩=efB (exprK 0) ex):=hid (EF.out HNB.out HAT.out);go_wp2_with fail;refine (HNM.out _).mono ?_;rintro e w' ⟨rfl,rfl⟩;go_wp2_with fail;refine (s_has _ _).mono ?_;rintro e w' ⟨rfl,rfl⟩
     by_cases hz:ex.length=0
     ·have HV:Hid (lineB ⟨0,nm,gs,ex⟩=true):=hid (by rw [HE.out];show efB (exprK 0) ex=true;rw [show exprK 0=false from rfl];exact decide_eq_true hz)
      obtain rfl:ex=[]:=List.length_eq_zero_iff.1 hz;clear hz;go_wp2;go_ret;exact ⟨ret_b HV.out.symm,below_drewN HB0.out q⟩
     ·have HV:Hid (lineB ⟨0,nm,gs,ex⟩=false):=hid (by rw [HE.out];show efB (exprK 0) ex=false;rw [show exprK 0=false from rfl];exact decide_eq_false hz)
      have hz1:((ex.length:Int) == 0)=false:=beq_eq_false_iff_ne.2 (by omega);clear hz;go_wp2;go_ret;exact ⟨ret_b HV.out.symm,below_drewN HB0.out q⟩
   by_cases hk1:k=1
   ·subst hk1
    cases NB with
    | false =>
     have HV:Hid (lineB ⟨1,nm,gs,ex⟩=false):=hid (NF.out HNB.out);go_wp2_with fail;refine (HNM.out _).mono ?_;rintro e w' ⟨rfl,rfl⟩;go_wp2;go_ret;exact ⟨ret_b HV.out.symm,below_drewN HB0.out q⟩
    | true =>
     have HE:Hid (lineB ⟨1,nm,gs,ex⟩=efB (exprK 1) ex):=hid (EF.out HNB.out HAT.out);go_wp2_with fail;refine (HNM.out _).mono ?_;rintro e w' ⟨rfl,rfl⟩;go_wp2_with fail;refine (s_has _ _).mono ?_;rintro e w' ⟨rfl,rfl⟩;have HV:Hid (lineB ⟨1,nm,gs,ex⟩=exprB ex):=hid (by rw [HE.out];show efB (exprK 1) ex=exprB ex;rw [show exprK 1=true from rfl];rfl);go_wp2_with fail;refine (s_exprok b d ex _ l4 (HT0.out.drewN q) HN5.out).mono ?_;rintro e w1 ⟨rfl,b1⟩;have HB1:Hid (Below w.heap.size w w1):=hid ((below_drewN HB0.out q).trans (b1.mono (below_drewN HB0.out q).size));clear b1;go_wp2;go_ret;exact ⟨ret_b HV.out.symm,HB1.out⟩
   have b0:(k == 0)=false:=beq_eq_false_iff_ne.2 hk0';have b1:(k == 1)=false:=beq_eq_false_iff_ne.2 hk1;have HNK:Hid (namedB k=false):=hid (by unfold namedB;rw [decide_eq_false hk0',decide_eq_false hk1];rfl)
   by_cases hnm:nm.size=0
   ·obtain rfl:=empty_of nm hnm
    have HE:Hid (lineB ⟨k,⟨#[]⟩,gs,ex⟩=efB (exprK k) ex):=hid (EF.out (by rw [HNK.out];rfl) HAT.out);obtain ⟨EK,hEK⟩:∃ x,exprK k=x:=⟨_,rfl⟩;have HEK:=hid hEK;have HS:=hid (fun W=>hEK▸s_has k W);clear hEK hnm hk0' hk1
    cases EK with
    | false =>
     go_wp2_with fail;refine (HS.out _).mono ?_;rintro e w' ⟨rfl,rfl⟩
     by_cases hz:ex.length=0
     ·have HV:Hid (lineB ⟨k,⟨#[]⟩,gs,ex⟩=true):=hid (by rw [HE.out];show efB (exprK k) ex=true;rw [HEK.out];exact decide_eq_true hz)
      obtain rfl:ex=[]:=List.length_eq_zero_iff.1 hz;clear hz;go_wp2;go_ret;exact ⟨ret_b HV.out.symm,below_drewN HB0.out q⟩
     ·have HV:Hid (lineB ⟨k,⟨#[]⟩,gs,ex⟩=false):=hid (by rw [HE.out];show efB (exprK k) ex=false;rw [HEK.out];exact decide_eq_false hz)
      have hz1:((ex.length:Int) == 0)=false:=beq_eq_false_iff_ne.2 (by omega);clear hz;go_wp2;go_ret;exact ⟨ret_b HV.out.symm,below_drewN HB0.out q⟩
    | true =>
     go_wp2_with fail;refine (HS.out _).mono ?_;rintro e w' ⟨rfl,rfl⟩;have HV:Hid (lineB ⟨k,⟨#[]⟩,gs,ex⟩=exprB ex):=hid (by rw [HE.out];show efB (exprK k) ex=exprB ex;rw [HEK.out];rfl);go_wp2_with fail;refine (s_exprok b d ex _ l4 (HT0.out.drewN q) HN5.out).mono ?_;rintro e w1 ⟨rfl,b1⟩;have HB1:Hid (Below w.heap.size w w1):=hid ((below_drewN HB0.out q).trans (b1.mono (below_drewN HB0.out q).size));clear b1;go_wp2;go_ret;exact ⟨ret_b HV.out.symm,HB1.out⟩
   ·have HV:Hid (lineB ⟨k,nm,gs,ex⟩=false):=hid (NF.out (by rw [HNK.out];unfold nfB;rw [if_neg (by decide)];exact decide_eq_false hnm))
    have hem:=empty_no nm hnm;clear hnm hk0' hk1;go_wp2;go_ret;exact ⟨ret_b HV.out.symm,below_drewN HB0.out q⟩
end Go.Proofs.YtcflojdkaddemaaGreatDoor

namespace Go.Proofs.YtcflojdkaddemaaGreatDoor
open Go.RowKit Go.Lib
theorem okS_no {p:List PLine} (h:¬ (∃ h:0<p.length,p.length≤60∧p[0].kind=0∧p[0].name=mainT∧p[0].args=[]∧(funs p).length≤6)):¬ OkS p:=fun hc=>h hc.1
def lineS (p:List PLine) (q:Nat):Prop:=∀ k,∀ h:k<p.length,k<q→lineB p[k]=true∧(p[k].kind=0→findZ p p[k].name=(k:Int))
set_option maxRecDepth 100000 in
set_option maxHeartbeats 8000000 in
theorem s_progOk (a:Option Addr) (cap:Nat) (X:List LnL) (w:World) (hl:X.length≤1048576) (hr:ReadL 9 147 w a X) (hz:SzAl X) :
  Calls Tryz.prog 11 #[.slice a X.length cap] w (Ans (OkS (plL X)) w):=by
 have HR:=hid hr;have HZ:=hid hz;have hpl:=plL_length X;have HF:=hid (s_funLines a cap X w hl hr);have HFN:=hid (fun (W:World) (hb:Below w.heap.size w W) n=>s_findFn a cap X n W (by omega) (hr.below hb));have HEN:=hid (fun (W:World) (hb:Below w.heap.size w W) (k:Int)=>s_endOf a cap X k W (by omega) (hr.below hb));have HBO:=hid (fun (W:World) (hb:Below w.heap.size w W) (k E:Nat) h1 h2=>s_body a cap X k E W hl (hr.below hb) hz h1 h2);clear hr hz
 by_cases h0:X.length=0
 ·have HV:Hid (¬ OkS (plL X)):=hid (okS_no (fun h=>by obtain ⟨h1,_⟩:=h;omega))
  have hd:((X.length:Int) == 0)=true:=beq_iff_eq.2 (by omega);clear hpl
  go_enter Tryz.func11,Tryz.ntmps11
  go_wp2;go_ret;exact Ans.of false rfl (by simpa using HV.out) (Below.refl _ _)
 have hd0:((X.length:Int) == 0)=false:=beq_eq_false_iff_ne.2 (by omega)
 by_cases h60:60<X.length
 ·have HV:Hid (¬ OkS (plL X)):=hid (okS_no (fun h=>by obtain ⟨_,h1,_⟩:=h;omega))
  have hd:decide (60<(X.length:Int))=true:=decide_eq_true (by omega);clear hpl
  go_enter Tryz.func11,Tryz.ntmps11
  go_wp2;go_ret;exact Ans.of false rfl (by simpa using HV.out) (Below.refl _ _)
 have hd60:decide (60<(X.length:Int))=false:=decide_eq_false (by omega);have hx0:0<X.length:=by omega
 have hxp:0<(plL X).length:=by omega
 have hx0i:(0:Int)<(X.length:Int):=by omega
 obtain ⟨g,rfl,hg,⟨c0,c1,c2,_⟩,hm⟩:=HR.out 0 hx0;obtain ⟨xa,_,xc,_,ea,_,_,_,_,_⟩:=inMem_shape hm;rw [ea] at c2;have e0:w.cell? ⟨g,0,none⟩=some (.int .i64 X[0].kind):=c0;have e1:w.cell? ⟨g,1,none⟩=some (.string X[0].name):=c1;have e2:w.cell? ⟨g,2,none⟩=some (.slice xa X[0].args.length xc):=c2;have HP0:Hid ((plL X)[0].kind=X[0].kind∧(plL X)[0].name=X[0].name∧(plL X)[0].args=X[0].args):=hid (by rw [pl_at X 0 hx0];exact ⟨rfl,rfl,rfl⟩);have hn60:X.length≤60:=by omega
 clear c0 c1 c2 hm ea h0 h60
 by_cases hk:X[0].kind=0
 case neg =>
  have HV:Hid (¬ OkS (plL X)):=hid (okS_no (fun h=>by obtain ⟨_,_,h1,_⟩:=h;exact hk (HP0.out.1▸h1)));have hd:(X[0].kind != 0)=true:=by simpa using hk
  generalize X[0].kind=kd at *;clear hpl hk
  go_enter Tryz.func11,Tryz.ntmps11
  go_wp2;go_ret;exact Ans.of false rfl (by simpa using HV.out) (Below.refl _ _)
 rw [hk] at e0
 by_cases hn:X[0].name=mainT
 case neg =>
  have HV:Hid (¬ OkS (plL X)):=hid (okS_no (fun h=>by obtain ⟨_,_,_,h1,_⟩:=h;exact hn (HP0.out.2.1▸h1)));have hd:¬ X[0].name.toList=[109,97,105,110]:=fun e=>by
   have h1:=str_ne _ _ hn;have h2:mainT.toList=[109,97,105,110]:=by rw [ByteArray.toList_eq];rfl
   rw [e,h2] at h1;exact absurd h1 (by decide)
  generalize X[0].name=nm at *;clear hpl hn
  go_enter Tryz.func11,Tryz.ntmps11
  go_wp2;go_ret;exact Ans.of false rfl (by simpa using HV.out) (Below.refl _ _)
 rw [hn] at e1;have e1':w.cell? ⟨g,1,none⟩=some (.string ⟨#[109,97,105,110]⟩):=e1
 by_cases ha:X[0].args.length=0
 case neg =>
  have HV:Hid (¬ OkS (plL X)):=hid (okS_no (fun h=>by
   obtain ⟨_,_,_,_,h1,_⟩:=h;rw [HP0.out.2.2] at h1;exact ha (by rw [h1];rfl)))
  have hd:((X[0].args.length:Int) != 0)=true:=bne_iff_ne.2 (fun h=>ha (by omega));generalize X[0].args.length=na at *;clear hpl hn hk e1 ha
  go_enter Tryz.func11,Tryz.ntmps11
  go_wp2;go_ret;exact Ans.of false rfl (by simpa using HV.out) (Below.refl _ _)
 have HA0:Hid (X[0].args=[]):=hid (List.length_eq_zero_iff.1 ha);have hda:((X[0].args.length:Int) != 0)=false:=bne_eq_false_iff_eq.2 (by omega);have HKN:Hid (X[0].kind=0∧X[0].name=mainT):=hid ⟨hk,hn⟩;have hfl:=funI_length (plL X);obtain ⟨n,hnn⟩:∃ n,(funI (plL X)).length=n:=⟨_,rfl⟩;have HNF:Hid (n=(funs (plL X)).length):=hid (by rw [← hnn];exact hfl);have HL0:Hid ((∃ h:0<(plL X).length,(plL X).length≤60∧(plL X)[0].kind=0∧(plL X)[0].name=mainT∧(plL X)[0].args=[]∧(funs (plL X)).length≤6)↔n≤6):=hid (by
  constructor
  ·rintro ⟨_,_,_,_,_,h6⟩
   rw [HNF.out];exact h6
  ·intro h
   exact ⟨hxp,by omega,HP0.out.1.trans HKN.out.1,HP0.out.2.1.trans HKN.out.2,HP0.out.2.2.trans HA0.out,by rw [← HNF.out];exact h⟩)
 have HNN:=hid hnn;generalize X[0].args.length=na at *;clear hnn hfl hk hn e1 ha
 go_enter Tryz.func11,Tryz.ntmps11
 go_wp2_with fail;refine HF.out.mono ?_;rintro _ w1 ⟨v,rfl,hown,b1⟩;obtain ⟨av,cv,rfl⟩:=owns3_shape hown;have HB1:=hid b1;have z1:=b1.size;rw [HNN.out];clear b1 hown e0 e1' e2
 by_cases h6:6<n
 ·have HV:Hid (¬ OkS (plL X)):=hid (fun h=>by have:=HL0.out.1 h.1;omega)
  have hd:decide (6<(n:Int))=true:=decide_eq_true (by omega);go_wp2;go_ret;exact Ans.of false rfl (by simpa using HV.out) HB1.out
 have hd6:decide (6<(n:Int))=false:=decide_eq_false (by omega);have HOK:Hid ((lineS (plL X) X.length∧followS (plL X) X.length 0)↔OkS (plL X)):=hid (by
  have e:followS (plL X) X.length 0=followS (plL X) (plL X).length 0:=by rw [hpl]
  rw [e];unfold OkS lineS
  constructor
  ·rintro ⟨h1,h2⟩
   exact ⟨HL0.out.2 (by omega),fun k h=>h1 k h (by omega),h2⟩
  ·rintro ⟨_,h1,h2⟩
   exact ⟨fun k h _=>h1 k h,h2⟩)
 go_wp2_with fail
 go_loopw [3] (fun i wr=>∃ q:Nat,q≤X.length∧i=.int .i64 (q:Int)∧Hid (lineS (plL X) q)∧Below w.heap.size w wr) (fun i _=>X.length - (RowKit.intOf i).toNat)
 case atStart=>exact ⟨0,Nat.zero_le _,rfl,hid (fun k h hk=>by omega),HB1.out⟩
 case round =>
  rename World=>wr
  obtain ⟨q,hq,rfl,HP,hbel⟩:=hrel;have HB:=hid hbel;have hB:=hbel.size
  by_cases hlt:q<X.length
  ·have hqp:q<(plL X).length:=by omega
   obtain ⟨g',hga,hg',⟨c0,c1,c2,c3⟩,hm⟩:=(HR.out.below hbel) q hlt;injection hga with hga
   injection hga with hga
   subst hga;have hsm:=HZ.out _ (List.getElem_mem hlt);have HNX:Hid (lineB X[q].p=true→(X[q].kind=0→findZ (plL X) X[q].name=(q:Int))→lineS (plL X) (q+1)):=hid (fun h1 h2 k hk hkq=>by
    by_cases hkk:k=q
    ·subst hkk
     rw [pl_at X k hlt];exact ⟨h1,h2⟩
    ·exact HP.out k hk (by omega))
   have HXX:Hid (OkS (plL X)→lineB X[q].p=true∧(X[q].kind=0→findZ (plL X) X[q].name=(q:Int))):=hid (fun h=>by
    have:=(HOK.out.2 h).1 q hqp hlt
    rw [pl_at X q hlt] at this;exact this)
   obtain ⟨ya,yb,yc,yd,ea,ee,rs,rt,_,_⟩:=inMem_shape hm;rw [ea] at c2;rw [ee] at c3;have HLK:=hid (s_lineok X[q].p ya yb yc yd wr rs rt (by have:=hsm.2.1;omega) (fun s hs=>small_max (hsm.2.2.1 s hs)) (small_max hsm.1) hsm.2.2.2.1 (fun j hj=>small_max (hsm.2.2.2.2 _ (List.getElem_mem hj))));obtain ⟨r,hr⟩:∃ r,lineB X[q].p=r:=⟨_,rfl⟩;rw [hr] at HLK HNX HXX;obtain ⟨x,hx⟩:∃ x,X[q]=x:=⟨_,rfl⟩;rw [hx] at c0 c1 c2 c3 HLK HNX HXX;obtain ⟨kk,nm,gs,ex,va,ve⟩:=x;dsimp only [LnL.p] at c0 c1 c2 c3 HLK HNX HXX;have HC0:=hid c0;have HC1:=hid c1;have k0:(0:Int)≤(q:Int):=by omega
   have k1:(q:Int)<(X.length:Int):=by omega
   clear hm ea ee hr hx rs rt hsm hbel HP
   cases r
   ·have HV:Hid (¬ OkS (plL X)):=hid (fun h=>by have:=(HXX.out h).1;cases this)
    clear HXX HNX;go_wp2_with fail;refine HLK.out.mono ?_;rintro _ w4 ⟨rfl,b4⟩;have HB4:Hid (Below w.heap.size w w4):=hid (HB.out.trans (b4.mono hB));clear b4 c0 c1 c2 c3;go_wp2;go_ret;exact Ans.of false rfl (by simpa using HV.out) HB4.out
   ·by_cases hkk:kk=0
    ·subst hkk
     have HN1:=hid (fun h=>HNX.out rfl (fun _=>h));have HX1:=hid (fun (h:OkS (plL X))=>(HXX.out h).2 rfl);clear HNX HXX;go_wp2_with fail;refine HLK.out.mono ?_;rintro _ w4 ⟨rfl,b4⟩;have HB4:Hid (Below w.heap.size w w4):=hid (HB.out.trans (b4.mono hB));have z4:=HB4.out.size;have d0:w4.cell? ⟨g,q*4,none⟩=some (.int .i64 0):=(b4.cell (p:=⟨g,_,none⟩) hg').trans HC0.out;have d1:w4.cell? ⟨g,q*4+1,none⟩=some (.string nm):=(b4.cell (p:=⟨g,_,none⟩) hg').trans HC1.out;have HFQ:=hid (HFN.out w4 HB4.out nm);obtain ⟨r,hr⟩:∃ r,findZ (plL X) nm=r:=⟨_,rfl⟩;rw [hr] at HFQ HN1 HX1;clear b4 c0 c1 c2 c3 hr
     by_cases hrq:r=(q:Int)
     ·subst hrq
      have HN:=hid (HN1.out rfl);clear HN1 HX1;go_wp2_with fail;refine HFQ.out.mono ?_;rintro _ w5 ⟨rfl,b5⟩;have HB5:Hid (Below w.heap.size w w5):=hid (HB4.out.trans (b5.mono z4));clear b5 d0 d1;go_wp2;go_roundw
      case rel=>exact ⟨q+1,by omega,by go_num,HN,HB5.out⟩
      case measure=>simp [RowKit.intOf];omega
     ·have HV:Hid (¬ OkS (plL X)):=hid (fun h=>hrq (HX1.out h))
      have hdr:(r != (q:Int))=true:=by simpa using hrq
      clear HN1 HX1 hrq;go_wp2_with fail;refine HFQ.out.mono ?_;rintro _ w5 ⟨rfl,b5⟩;have HB5:Hid (Below w.heap.size w w5):=hid (HB4.out.trans (b5.mono z4));clear b5 d0 d1;go_wp2;go_ret;exact Ans.of false rfl (by simpa using HV.out) HB5.out
    ·have HN:=hid (HNX.out rfl (fun h=>absurd h hkk))
     have hdk:(kk == 0)=false:=by simpa using hkk
     clear HNX HXX hkk;go_wp2_with fail;refine HLK.out.mono ?_;rintro _ w4 ⟨rfl,b4⟩;have HB4:Hid (Below w.heap.size w w4):=hid (HB.out.trans (b4.mono hB));have d0:w4.cell? ⟨g,q*4,none⟩=some (.int .i64 kk):=(b4.cell (p:=⟨g,_,none⟩) hg').trans HC0.out;clear b4 c0 c1 c2 c3;go_wp2;go_roundw
     case rel=>exact ⟨q+1,by omega,by go_num,HN,HB4.out⟩
     case measure=>simp [RowKit.intOf];omega
  ·have hqq:q=X.length:=by omega
   have HLS:Hid (lineS (plL X) X.length):=hid (hqq▸HP.out);have HOK2:Hid (followS (plL X) X.length 0↔OkS (plL X)):=hid (by
    rw [← HOK.out];exact ⟨fun h=>⟨HLS.out,h⟩,fun h=>h.2⟩)
   subst hqq;clear hbel HP HOK hlt hd6 hda hd60 hd0;go_wp2_with fail
   go_loopw [4,5] (fun i _ wx=>∃ (f m:Nat),m≤X.length∧X.length≤m+f∧i=.int .i64 (m:Int)∧Hid (followS (plL X) f m↔followS (plL X) X.length 0)∧Below w.heap.size w wx) (fun i _ _=>X.length - (RowKit.intOf i).toNat)
   case atStart=>exact ⟨X.length,0,Nat.zero_le _,by omega,rfl,hid Iff.rfl,HB.out⟩
   case round =>
    rename World=>wx
    obtain ⟨f,m,hm,hmf,rfl,HQ,hbx⟩:=hrel;have HBX:=hid hbx;have hBX:=hbx.size
    by_cases hlm:m<X.length
    ·have hmp:m<(plL X).length:=by omega
     obtain ⟨f',rfl⟩:∃ f',f=f'+1:=⟨f - 1,by omega⟩;obtain ⟨g',hga,hg',⟨c0,_,_,_⟩,_⟩:=(HR.out.below hbx) m hlm;injection hga with hga
     injection hga with hga
     subst hga;have HST:Hid ((X[m].kind=0∧0≤beZ (plL X) (m:Int)∧bodyOk (plL X) m∧followS (plL X) f' ((beZ (plL X) (m:Int)).toNat+1))↔OkS (plL X)):=hid (by
      rw [← HOK2.out,← HQ.out,followS,if_neg (by omega),lkZ_at _ m hmp,pl_kind X m hlm])
     have HEM:=hid (HEN.out wx hbx m);have HBM:Hid (0≤beZ (plL X) (m:Int)→∃ E:Nat,beZ (plL X) (m:Int)=(E:Int)∧m<E∧E<X.length):=hid (fun h=>by
      obtain ⟨j,h1,_,_,h2,h3⟩:=beZ_is (plL X) (m:Int) h;exact ⟨(beZ (plL X) (m:Int)).toNat,by omega,by omega,by omega⟩)
     have HC0:=hid c0;generalize X[m].kind=kd at *;have k0:(0:Int)≤(m:Int):=by omega
     have k1:(m:Int)<(X.length:Int):=by omega
     clear hbx HQ
     by_cases hkd:kd=0
     ·subst hkd
      by_cases hE0:0≤beZ (plL X) (m:Int)
      ·obtain ⟨E,hE,hmE,hEX⟩:=HBM.out hE0
       have HBD:Hid ((bodyOk (plL X) m∧followS (plL X) f' (E+1))↔OkS (plL X)):=hid (by
        rw [← HST.out,hE,Int.toNat_natCast];exact ⟨fun h=>⟨rfl,by omega,h.1,h.2⟩,fun h=>⟨h.2.2.1,h.2.2.2⟩⟩)
       have HBK:Hid (bodyOk (plL X) m↔((locZ (plL X) (m:Int)).length≤8∧bodyL (plL X) m (locZ (plL X) (m:Int)) 0 (m+1) (segZ (plL X) (m+1) E))):=hid (by unfold bodyOk;rw [hE,Int.toNat_natCast]);rw [hE] at HEM;have hdE:decide ((E:Int)<0)=false:=decide_eq_false (by omega);clear hE hE0 HST HBM;go_wp2_with fail;refine HEM.out.mono ?_;rintro _ w5 ⟨rfl,b5⟩;have HB5:Hid (Below w.heap.size w w5):=hid (HBX.out.trans (b5.mono hBX));have z5:=HB5.out.size;have d0:w5.cell? ⟨g,m*4,none⟩=some (.int .i64 0):=(b5.cell (p:=⟨g,_,none⟩) hg').trans HC0.out;have HBC:=hid (HBO.out w5 HB5.out m E hmE hEX);clear b5 c0;go_wp2_with fail;refine HBC.out.mono ?_;rintro _ w6 ⟨b,rfl,hb,b6⟩;have HBB:=hid hb;have HB6:Hid (Below w.heap.size w w6):=hid (HB5.out.trans (b6.mono z5));clear b6 hb d0
       cases b
       ·have HV:Hid (¬ OkS (plL X)):=hid (fun h=>by have:=HBB.out.2 (HBK.out.1 (HBD.out.2 h).1);cases this)
        clear HBB HBK HBD;go_wp2;go_ret;exact Ans.of false rfl (by simpa using HV.out) HB6.out
       ·have HN:Hid (followS (plL X) f' (E+1)↔followS (plL X) X.length 0):=hid (by
         rw [HOK2.out,← HBD.out];exact ⟨fun h=>⟨HBK.out.2 (HBB.out.1 rfl),h⟩,fun h=>h.2⟩)
        clear HBB HBK HBD;go_wp2;go_roundw
        case rel=>exact ⟨f',E+1,by omega,by omega,by go_num,HN,HB6.out⟩
        case measure=>simp [RowKit.intOf];omega
      ·have HV:Hid (¬ OkS (plL X)):=hid (fun h=>hE0 (HST.out.2 h).2.1)
       obtain ⟨e,he⟩:∃ e,beZ (plL X) (m:Int)=e:=⟨_,rfl⟩;rw [he] at HEM hE0;have hdE:decide (e<0)=true:=decide_eq_true (by omega);clear he HST HBM;go_wp2_with fail;refine HEM.out.mono ?_;rintro _ w5 ⟨rfl,b5⟩;have HB5:Hid (Below w.heap.size w w5):=hid (HBX.out.trans (b5.mono hBX));have d0:w5.cell? ⟨g,m*4,none⟩=some (.int .i64 0):=(b5.cell (p:=⟨g,_,none⟩) hg').trans HC0.out;clear b5 c0;go_wp2;go_ret;exact Ans.of false rfl (by simpa using HV.out) HB5.out
     ·have HV:Hid (¬ OkS (plL X)):=hid (fun h=>hkd (HST.out.2 h).1)
      have hdk:(kd != 0)=true:=by simpa using hkd
      generalize beZ (plL X) (m:Int)=e at *;clear HST HBM hkd;go_wp2_with fail;refine HEM.out.mono ?_;rintro _ w5 ⟨rfl,b5⟩;have HB5:Hid (Below w.heap.size w w5):=hid (HBX.out.trans (b5.mono hBX));have d0:w5.cell? ⟨g,m*4,none⟩=some (.int .i64 kd):=(b5.cell (p:=⟨g,_,none⟩) hg').trans HC0.out;clear b5 c0;go_wp2;go_ret;exact Ans.of false rfl (by simpa using HV.out) HB5.out
    ·have HV:Hid (OkS (plL X)):=hid (by
      rw [← HOK2.out,← HQ.out]
      cases f with
      | zero=>exact trivial
      | succ f=>rw [followS,if_pos (by omega)];exact trivial)
     have hmm:m=X.length:=by omega
     subst hmm;clear hbx HQ;go_wp2;go_ret;exact Ans.of true rfl (by simpa using HV.out) HBX.out
end Go.Proofs.YtcflojdkaddemaaGreatDoor

namespace Go.Proofs.YtcflojdkaddemaaGreatDoor
open Go.RowKit Go.Lib
noncomputable def pokB (p:List PLine):Bool:=@decide (OkI p) (Classical.propDecidable _)
theorem pokB_iff (p:List PLine):pokB p=true↔OkI p:=by unfold pokB;exact @decide_eq_true_iff _ (Classical.propDecidable _)
theorem pokB_of {p:List PLine} {b:Bool} (h:b=true↔OkI p):b=pokB p:=Bool.eq_iff_iff.2 (h.trans (pokB_iff p).symm)
theorem i_progOkB (a:Option Addr) (cap:Nat) (X:List LnL) (w:World) (hl:X.length≤1048576) (hcap:X.length≤cap) (hr:ReadL 9 147 w a X) (hz:SzAl X) (hsh:Shapes w) :
  Calls Tryz.prog 57 #[.slice a X.length cap] w fun e w'=>e=.returned (.bool (pokB (plL X)))∧Below w.heap.size w w':=by
 refine (i_progOk a cap X w hl hcap hr hz hsh).mono ?_;rintro e w' ⟨b,rfl,hb,h⟩;exact ⟨by rw [pokB_of hb],h⟩
theorem s_progOkB (a:Option Addr) (cap:Nat) (X:List LnL) (w:World) (hl:X.length≤1048576) (hr:ReadL 9 147 w a X) (hz:SzAl X) :
  Calls Tryz.prog 11 #[.slice a X.length cap] w fun e w'=>e=.returned (.bool (pokB (plL X)))∧Below w.heap.size w w':=by
 refine (s_progOk a cap X w hl hr hz).mono ?_;rintro e w' ⟨b,rfl,hb,h⟩;exact ⟨by rw [pokB_of (hb.trans (ok_iff _).symm)],h⟩
theorem own_cap4 {B T n s m c:Nat} {a:Option Addr} {w:World} {xs:List Value} (h:w.ownsRow B T s (.slice a m c) n xs):n≤c:=by
 rcases h.2 with ⟨_,h0⟩|⟨g,cap,cur,e,_,_,hn,_⟩
 ·omega
 ·injection e with _ _ e3
  omega
end Go.Proofs.YtcflojdkaddemaaGreatDoor

namespace Go.Proofs.YtcflojdkaddemaaGreatDoor
open Go.RowKit Go.Lib
end Go.Proofs.YtcflojdkaddemaaGreatDoor

namespace Go.Proofs.YtcflojdkaddemaaGreatDoor
open Go.RowKit Go.Lib
end Go.Proofs.YtcflojdkaddemaaGreatDoor

namespace Go.Proofs.YtcflojdkaddemaaGreatDoor
open Go.RowKit Go.Lib
end Go.Proofs.YtcflojdkaddemaaGreatDoor

namespace Go.Proofs.YtcflojdkaddemaaGreatDoor
open Go.RowKit Go.Lib
end Go.Proofs.YtcflojdkaddemaaGreatDoor

namespace Go.Proofs.YtcflojdkaddemaaGreatDoor
open Go.RowKit Go.Lib
end Go.Proofs.YtcflojdkaddemaaGreatDoor

namespace Go.Proofs.YtcflojdkaddemaaGreatDoor
open Go.RowKit Go.Lib
end Go.Proofs.YtcflojdkaddemaaGreatDoor

namespace Go.Proofs.YtcflojdkaddemaaGreatDoor
open Go.RowKit Go.Lib
end Go.Proofs.YtcflojdkaddemaaGreatDoor

namespace Go.Proofs.YtcflojdkaddemaaGreatDoor
open Go.RowKit Go.Lib
end Go.Proofs.YtcflojdkaddemaaGreatDoor

namespace Go.Proofs.YtcflojdkaddemaaGreatDoor
open Go.RowKit Go.Lib
def LnsRes (TL TS TK B:Nat) (ps:List PLine) (w:World) (e:Ending) (w':World):Prop :=
 ∃ v X,e=.returned v∧w'.ownsRow B TL 4 v X.length (lnsV X)∧Made TS TK B w' X∧plL X=ps∧Below w.heap.size w w'
theorem infoLn:(Tryz.prog.info? 87).map (fun i=>(i.zero,i.size,i.bytes))=some (some (.agg #[.int .i64 0,.string ⟨#[]⟩,.slice none 0 0,.slice none 0 0]),4,72):=by kernel_rfl
theorem row_block {B T n s g o c:Nat} {w:World} {xs:List Value} (h:w.ownsRow B T s (.slice (some ⟨g,o,none⟩) n c) n xs):∃ cur,w.heap[g]?=some (.cells cur T (0,0)):=by
 rcases h.2 with ⟨e,_⟩|⟨g',cap,cur,e,_,hg,_⟩
 ·injection e with e;cases e
 ·injection e with e
  injection e with e
  injection e with e
  subst e;exact ⟨cur,hg⟩
end Go.Proofs.YtcflojdkaddemaaGreatDoor

namespace Go.Proofs.YtcflojdkaddemaaGreatDoor
open Go.RowKit Go.Lib
theorem plL_app (X Y:List LnL):plL (X++Y)=plL X++plL Y:=by simp [plL]
theorem ok_expr {p:List PLine} (h:OkI p) {j:Nat} (hj:j<p.length):p[j].expr=[]∨exprB p[j].expr=true:=line_expr _ (h.1.2 _ (List.getElem_mem hj))
end Go.Proofs.YtcflojdkaddemaaGreatDoor

namespace Go.Proofs.YtcflojdkaddemaaGreatDoor
open Go.RowKit Go.Lib
theorem undrF {B:Nat} {w w':World} (h:Below B w.drew w'):Below B w w':=⟨h.os,h.tape,h.output,h.size,h.block⟩
theorem foldV_fold (l:List TokL) (h:l=[]∨exprB l=true):foldV l=foldE l:=by
 unfold foldV
 rcases h with rfl|h
 ·rfl
 ·rw [if_pos h]
theorem foldP_take' (p:List PLine) (k:Nat) (h:k<p.length):foldP (p.take (k+1))=foldP (p.take k)++[foldL p[k]]:=by
 rw [List.take_succ_eq_append_getElem h];unfold foldP;rw [List.map_append];rfl
theorem far_cell {w:World} {b c i j:Nat} {u v:Value} (hne:b≠c) (h:w.cell? ⟨b,i,none⟩=some v):(w.setCell ⟨c,j,none⟩ u).cell? ⟨b,i,none⟩=some v:=(World.cell?_of_block (a:=⟨b,i,none⟩) (set_other hne)).trans h
theorem far_cells {w:World} {b c j0 j1 j2 j3:Nat} {u0 u1 u2 u3 v0 v1 v2 v3:Value} (hne:b≠c) (h:w.cell? ⟨b,0,none⟩=some v0∧w.cell? ⟨b,1,none⟩=some v1∧w.cell? ⟨b,2,none⟩=some v2∧w.cell? ⟨b,3,none⟩=some v3) :
  ((((w.setCell ⟨c,j0,none⟩ u0).setCell ⟨c,j1,none⟩ u1).setCell ⟨c,j2,none⟩ u2).setCell ⟨c,j3,none⟩ u3).cell? ⟨b,0,none⟩=some v0∧((((w.setCell ⟨c,j0,none⟩ u0).setCell ⟨c,j1,none⟩ u1).setCell ⟨c,j2,none⟩ u2).setCell ⟨c,j3,none⟩ u3).cell? ⟨b,1,none⟩=some v1 ∧
  ((((w.setCell ⟨c,j0,none⟩ u0).setCell ⟨c,j1,none⟩ u1).setCell ⟨c,j2,none⟩ u2).setCell ⟨c,j3,none⟩ u3).cell? ⟨b,2,none⟩=some v2∧((((w.setCell ⟨c,j0,none⟩ u0).setCell ⟨c,j1,none⟩ u1).setCell ⟨c,j2,none⟩ u2).setCell ⟨c,j3,none⟩ u3).cell? ⟨b,3,none⟩=some v3 :=
 ⟨far_cell hne (far_cell hne (far_cell hne (far_cell hne h.1))),far_cell hne (far_cell hne (far_cell hne (far_cell hne h.2.1))),far_cell hne (far_cell hne (far_cell hne (far_cell hne h.2.2.1))),far_cell hne (far_cell hne (far_cell hne (far_cell hne h.2.2.2)))⟩
set_option maxRecDepth 100000 in
set_option maxHeartbeats 4000000 in
theorem i_foldProgram (a:Option Addr) (cap:Nat) (X0:List LnL) (w:World) (hl:X0.length≤1048576) (hcap:X0.length≤cap) (hr:ReadL 9 147 w a X0) (hz:SzAl X0) (hsh:Shapes w) :
  Calls Tryz.prog 83 #[.slice a X0.length cap] w (LnsRes 87 9 147 w.heap.size (if pokB (plL X0)=true then foldP (plL X0) else []) w):=by
 have S:=hid (i_progOkB a cap X0 w hl hcap hr hz hsh);have HR:=hid hr;have hpl:=plL_length X0;have HZX:=hid hz;have HAT:=hid (fun (j:Nat) (h:j<X0.length) (h':j<(plL X0).length)=>pl_at X0 j h h');clear hr hz hsh;obtain ⟨p,hp⟩:∃ p,plL X0=p:=⟨_,rfl⟩;rw [hp] at S hpl;have HP:=hid hp;have HATP:Hid (∀ (j:Nat) (h:j<X0.length) (h':j<p.length),p[j]=X0[j].p):=hid (by subst hp;exact HAT.out);rw [hp];clear hp HAT
 cases hb:pokB p with
 | false =>
  rw [hb] at S;clear hb
  go_enter Tryz.func83,Tryz.ntmps83
  go_wp2_with fail;refine S.out.mono ?_;rintro e w1 ⟨rfl,b1⟩;have HB:=hid b1;clear b1;go_wp2;go_ret;exact ⟨_,[],rfl,World.ownsRow_nil _ _ _ _,Made.nil _ _ _ _,rfl,HB.out⟩
 | true =>
  rw [hb] at S;have HOK:=hid ((pokB_iff p).1 hb);have h60:=HOK.out.1.1;clear hb;obtain ⟨i0,hi,hz0,hz1,hz2⟩:=info_parts infoLn;have hmk:=fun W=>run_make_rowN (P:=Tryz.prog) 24 87 i0 _ 4 72 Tryz.underlying24 hi hz0 hz1 hz2 .i64 .i64 X0.length X0.length (Nat.le_refl _) (by omega) (by omega) W
  obtain ⟨cs,hcs⟩:∃ cs,madeCells (Value.agg #[.int .i64 0,.string ⟨#[]⟩,.slice none 0 0,.slice none 0 0]).cells (X0.length*4)=cs:=⟨_,rfl⟩;have hcsz:cs.size=X0.length*4:=by rw [← hcs,size_madeCells]
  rw [hcs] at hmk;clear hcs hi hz0 hz1 hz2;have HZ:=hid hcsz;clear hcsz
  go_enter Tryz.func83,Tryz.ntmps83
  go_wp2_with fail;refine S.out.mono ?_;rintro e w1 ⟨rfl,b1⟩;have HB1:=hid b1;have z1:=b1.size;clear b1;obtain ⟨n,hn⟩:∃ n,X0.length=n:=⟨_,rfl⟩;rw [hn] at hpl hmk HZ;have HN:=hid hn;have HPN:=hid hpl;have hn6:n≤60:=by omega
  rw [hn];clear hn hpl h60;go_wp2_with fail;clear hmk
  go_loopw [4,5,14] (fun _ _ i wr=>∃ (k:Nat) (X:List LnL) (R:List Value),k≤n∧i=.int .i64 (k:Int)∧R.length=(n - k)*4∧X.length=k∧Hid (plL X=foldP (p.take k))∧Made 9 147 w.heap.size wr X∧wr.ownsRow w.heap.size 87 4 (.slice (some ⟨w1.heap.size,0,none⟩) n n) n (lnsV X++R)∧Below w.heap.size w wr) (fun _ _ i _=>n - (RowKit.intOf i).toNat)
  case atStart=>exact ⟨0,[],cs.toList,Nat.zero_le _,rfl,by simpa using HZ.out,rfl,hid rfl,Made.nil _ _ _ _,World.ownsRow_lit _ _ _ z1 (by unfold maxLen;omega) HZ.out,HB1.out.alloc z1 _⟩
  case round =>
   obtain ⟨k,X,R,hk,rfl,hR,hX,HPX,hall,hown,hbel⟩:=hrel;have HO:=hid hown;have HB:=hid hbel;have HAL:=hid hall;have hB:=hbel.size;have hgl:w1.heap.size<wr.heap.size:=(hown.lt w1.heap.size rfl).2;clear hown hall
   by_cases hlt:k<n
   ·have hkx:k<X0.length:=by rw [HN.out];exact hlt
    have hkp:k<p.length:=by rw [HPN.out];exact hlt
    obtain ⟨g,rfl,hg,⟨c0,c1,c2,c3⟩,hm⟩:=(HR.out.below hbel) k hkx;have hxp:=HATP.out k hkx hkp;have PN:=hid (foldP_take' p k hkp);have hex:=ok_expr HOK.out hkp;rw [hxp] at PN hex;have hzz:=HZX.out _ (List.getElem_mem hkx);obtain ⟨xa,xb,xc,xd,ea,ee,hrs,hrt,hcp,hnl⟩:=inMem_shape hm;clear hrs hcp hnl;obtain ⟨y,hy⟩:∃ y,X0[k]=y:=⟨_,rfl⟩;rw [hy] at c0 c1 c2 c3 PN hex hzz ea ee hrt hm;obtain ⟨y0,y1,y2,y3,R',hRe,hR'⟩:=four R (n - (k+1)) (by rw [hR];congr 1;omega);subst hRe;have HR':=hid hR';have HMA:=hid hm.1;obtain ⟨kk,nm,gs,ex,va,ve⟩:=y;dsimp only at c0 c1 c2 c3 PN hex hzz ea ee hrt HMA;subst ea ee;have HFV:=hid (foldV_fold ex hex);have hzz2:gs.length≤1048576:=hzz.2.1;have hzz4:ex.length≤1048576:=hzz.2.2.2.1;have hnm:NamesI ex:=fun j hj=>small_max (hzz.2.2.2.2 _ (List.getElem_mem hj))
    have HBA:Hid (Below wr.heap.size wr (wr.alloc (.cells #[.int .i64 kk,.string nm,.slice xa gs.length xc,.slice xb ex.length xd] 87))):=hid ((Below.refl _ _).alloc (Nat.le_refl _) _);have hsz:(wr.alloc (.cells #[.int .i64 kk,.string nm,.slice xa gs.length xc,.slice xb ex.length xd] 87)).heap.size=wr.heap.size+1:=by simp
    have HXA:=hid (heap_alloc_new wr (.cells #[.int .i64 kk,.string nm,.slice xa gs.length xc,.slice xb ex.length xd] 87));have HCL:=hid (x_cloneS (.slice xa gs.length xc) gs ((wr.alloc (.cells #[.int .i64 kk,.string nm,.slice xa gs.length xc,.slice xb ex.length xd] 87)).drew) (owns_below HMA.out (HBA.out.drew)) hzz2);have HFE:=hid (fun W (hb:Below wr.heap.size wr W)=>i_foldExpr xb xd ex W hzz4 (hrt.below hb) hnm);have HROW:=hid (fun W (hb:Below wr.heap.size wr W)=>owns3_below HO.out hb);have HS:=hid (fun va ve=>headL_set X k hX ⟨kk,nm,gs,foldE ex,va,ve⟩ y0 y1 y2 y3 R');have HXL:=hid hX;have k0:(0:Int)≤(k:Int):=by omega
    have k1:(k:Int)<(n:Int):=by omega
    obtain ⟨fx,hfx⟩:∃ fx,foldV ex=fx:=⟨_,rfl⟩;rw [hfx] at HFE HFV;have a0:=(blk HXA.out).1 0 (.int .i64 kk) rfl;have a1:=(blk HXA.out).1 1 (.string nm) rfl;have a2:=(blk HXA.out).1 2 (.slice xa gs.length xc) rfl;have a3:=(blk HXA.out).1 3 (.slice xb ex.length xd) rfl;have KEEP:Hid (∀ W:World,Below (wr.heap.size+1) (wr.alloc (.cells #[.int .i64 kk,.string nm,.slice xa gs.length xc,.slice xb ex.length xd] 87)) W→W.cell? ⟨wr.heap.size,0,none⟩=some (.int .i64 kk)∧W.cell? ⟨wr.heap.size,1,none⟩=some (.string nm)∧W.cell? ⟨wr.heap.size,2,none⟩=some (.slice xa gs.length xc)∧W.cell? ⟨wr.heap.size,3,none⟩=some (.slice xb ex.length xd)):=hid (fun W hb=>⟨(hb.cell (p:=⟨wr.heap.size,_,none⟩) (by dsimp only;omega)).trans a0,(hb.cell (p:=⟨wr.heap.size,_,none⟩) (by dsimp only;omega)).trans a1,(hb.cell (p:=⟨wr.heap.size,_,none⟩) (by dsimp only;omega)).trans a2,(hb.cell (p:=⟨wr.heap.size,_,none⟩) (by dsimp only;omega)).trans a3⟩);have hszd:(wr.alloc (.cells #[.int .i64 kk,.string nm,.slice xa gs.length xc,.slice xb ex.length xd] 87)).drew.heap.size=wr.heap.size+1:=hsz;have hne:wr.heap.size≠w1.heap.size:=by omega
    clear hy hm hzz hR hR' hbel hX hxp hkx hkp hex hrt hnm hfx;go_upto_region 7 with fail
    go_region_held3 (fun w'=>w'.cell? ⟨wr.heap.size,0,none⟩=some (.int .i64 kk)∧w'.cell? ⟨wr.heap.size,1,none⟩=some (.string nm)∧w'.cell? ⟨wr.heap.size,2,none⟩=some (.slice xa gs.length xc)∧w'.cell? ⟨wr.heap.size,3,none⟩=some (.slice xb ex.length xd)) (first|with_reducible exact KEEP.out _ (Below.refl _ (wr.alloc (.cells #[.int .i64 kk,.string nm,.slice xa gs.length xc,.slice xb ex.length xd] 87))).drew|with_reducible exact KEEP.out _ B4|with_reducible exact far_cells hne (KEEP.out _ B4)|with_reducible exact KEEP.out _ B3|go_keep) (first
     | (go_at_call 139;(with_reducible refine HCL.out.mono ?_);rintro e w3 ⟨va',rfl,O3,b3⟩;obtain ⟨av,cv,rfl⟩:=owns_shape O3;rw [hszd] at b3 O3;have B3:Below (wr.heap.size+1) (wr.alloc (.cells #[.int .i64 kk,.string nm,.slice xa gs.length xc,.slice xb ex.length xd] 87)) w3:=undrF b3)
     | (go_at_call 140;(with_reducible refine (HFE.out _ (HBA.out.trans (B3.mono (Nat.le_succ _)))).mono ?_);rintro e w4 ⟨ve',rfl,O4,b4,_⟩;obtain ⟨ax,cx,rfl⟩:=owns3_shape O4;have z3:=B3.size;rw [hsz] at z3;have B4:Below (wr.heap.size+1) (wr.alloc (.cells #[.int .i64 kk,.string nm,.slice xa gs.length xc,.slice xb ex.length xd] 87)) w4:=B3.trans (b4.mono z3);have HB24:Below wr.heap.size wr w4:=HBA.out.trans (B4.mono (Nat.le_succ _));have HO4:=HROW.out _ HB24;have hlen:(lnsV X++y0 :: y1 :: y2 :: y3 :: R').length=n*4:=HO4.1;obtain ⟨s0,e0⟩:∃ y,w4.cell? ⟨w1.heap.size,k*4,none⟩=some y:=by { have:=HO4.cellAt (k*4) (by omega);rw [this];exact ⟨_,List.getElem?_eq_getElem (by omega)⟩ };obtain ⟨s1,e1⟩:∃ y,w4.cell? ⟨w1.heap.size,k*4+1,none⟩=some y:=by { have:=HO4.cellAt (k*4+1) (by omega);rw [this];exact ⟨_,List.getElem?_eq_getElem (by omega)⟩ };obtain ⟨s2,e2⟩:∃ y,w4.cell? ⟨w1.heap.size,k*4+2,none⟩=some y:=by { have:=HO4.cellAt (k*4+2) (by omega);rw [this];exact ⟨_,List.getElem?_eq_getElem (by omega)⟩ };obtain ⟨s3,e3⟩:∃ y,w4.cell? ⟨w1.heap.size,k*4+3,none⟩=some y:=by { have:=HO4.cellAt (k*4+3) (by omega);rw [this];exact ⟨_,List.getElem?_eq_getElem (by omega)⟩ };have fr:=HO4.frozenAt))
    all_goals
     have S1:=HO4.stored (k*4) (.int .i64 kk);have S2:=S1.1.stored (k*4+1) (.string nm);have S3:=S2.1.stored (k*4+2) (.slice av gs.length cv);have S4:=S3.1.stored (k*4+3) (.slice ax fx.length cx);have HG:=hid (((S1.2.trans S2.2).trans S3.2).trans S4.2);have HO5:=hid (HS.out (.slice av gs.length cv) (.slice ax fx.length cx)▸S4.1);have z4:=HB24.size;have HB4:Hid (Below w.heap.size w w4):=hid (HB.out.trans (HB24.mono hB));have HB5:=hid (HB4.out.grown HG.out (by omega) (fun j hj=>by injection hj with e;omega));have HOA:Hid (w4.ownsRow (wr.heap.size+1) 9 1 (.slice av gs.length cv) gs.length (strV gs)):=hid (owns_below O3 b4);have HOE:Hid (w4.ownsRow (wr.heap.size+1) 147 3 (.slice ax fx.length cx) fx.length (toksV fx)):=hid (owns_lower O4 z3);have HE5:=hid HFV.out;have HAL4:Hid (Made 9 147 w.heap.size w4 (X++[⟨kk,nm,gs,foldE ex,.slice av gs.length cv,.slice ax fx.length cx⟩])):=hid (HAL.out.snoc (B':=wr.heap.size+1) HB24 ⟨HOA.out,by have:=HOE.out;rw [HE5.out] at this ⊢;exact this⟩ (by omega) (by omega));clear S1 S2 S3 S4 hlen b3 b4 O3 O4 B3 B4;go_wp2;go_roundw
     case rel =>
      refine ⟨k+1,X++[⟨kk,nm,gs,foldE ex,.slice av gs.length cv,.slice ax fx.length cx⟩],R',by omega,by go_num,HR'.out,by rw [List.length_append,HXL.out];rfl,hid ?_,?_,HO5.out,HB5.out⟩
      ·rw [PN.out,← HPX.out,plL_app];rfl
      ·refine Made.grown (TL:=87) HAL4.out HG.out ?_ (by decide) (by decide)
       rintro g ⟨⟩;obtain ⟨cur,hcur⟩:=row_block HO4;exact .inr ⟨cur,hcur⟩
     case measure=>simp [RowKit.intOf];omega
   ·have hkk:k=n:=by omega
    subst hkk;have hR0:R=[]:=List.length_eq_zero_iff.1 (by rw [hR];simp);subst hR0;have HPF:Hid (plL X=foldP p):=hid (by have h:=HPX.out;rwa [← HPN.out,List.take_of_length_le (Nat.le_refl _)] at h);have HOF:Hid (wr.ownsRow w.heap.size 87 4 (.slice (some ⟨w1.heap.size,0,none⟩) k k) X.length (lnsV X)):=hid (by have h:=HO.out;rw [List.append_nil] at h;rw [hX];exact h);clear hX hR HO hlt hbel;go_wp2;go_ret;exact ⟨_,X,rfl,HOF.out,HAL.out,HPF.out,HB.out⟩
end Go.Proofs.YtcflojdkaddemaaGreatDoor
