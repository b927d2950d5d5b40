/- Parts of the proof. -/
import Derived.Test.YtcflojdkaddemaaGreatDoorI11
import Derived.ScopeJumps
import Derived.WalkMore
namespace Go.Proofs.YtcflojdkaddemaaGreatDoor
open Go.RowKit Go.Lib
theorem if_mem (k:Int):memI [3] k=decide (k=3):=by
 unfold memI
 by_cases h:k=3
 ·subst h;rfl
 ·rw [decide_eq_false h];simp [h]
set_option maxRecDepth 1000000 in
set_option maxHeartbeats 8000000 in
theorem i_elseOf (a:Option Addr) (cap:Nat) (X:List LnL) (k:Int) (w:World) (hl:X.length≤2000000) (hr:ReadL 9 147 w a X) :
  Calls Tryz.prog 197 #[.slice a X.length cap,.int .i64 k] w fun e w'=>e=.returned (.int .i64 (elseZ (plL X) k))∧Below w.heap.size w w':=by
 have HR:=hid hr;have hpl:=plL_length X;have SE:=hid (fun (W:World) (hb:Below w.heap.size w W) (q:Int)=>i_endOf a cap X q W hl (HR.out.below hb));clear hr;have HB0:Hid (Below w.heap.size w (w.alloc (.cells #[.int .i64 3] 3))):=hid ((Below.refl _ _).alloc (Nat.le_refl _) _);have HI:=hid (fun b d hk=>i_lineIs a cap X k b d [3] (w.alloc (.cells #[.int .i64 3] 3)) hl (HR.out.below HB0.out) hk (by decide) (by decide));have HK:Hid (ReadI (w.alloc (.cells #[.int .i64 3] 3)) (some ⟨w.heap.size,0,none⟩) [3]):=hid (readI_of (B:=0) (T:=3) (c:=1) (World.ownsRow_lit w #[.int .i64 3] 1 (Nat.zero_le _) (by decide) rfl));rw [if_mem] at HI;have hz0:(w.alloc (.cells #[.int .i64 3] 3)).heap.size=w.heap.size+1:=by simp
 by_cases h3:lkZ (plL X) k=3
 ·obtain ⟨j,rfl,hjp⟩:=lk_in (plL X) k (by rw [h3];rfl)
  have hj:j<X.length:=by omega
  rw [decide_eq_true h3] at HI;have HI':=hid (HI.out _ 1 HK.out);clear HI HK;obtain ⟨g,ha,hg,_⟩:=HR.out j hj;subst ha;have HE1:Hid (∀ W,Below w.heap.size w W→Calls Tryz.prog 163 #[.slice (some ⟨g,0,none⟩) X.length cap,.int .i64 (j:Int)] W fun e w'=>e=.returned (.int .i64 (beZ (plL X) (j:Int)))∧Below W.heap.size W w'):=hid (fun W hb=>SE.out W hb j)
  by_cases hneg:beZ (plL X) (j:Int)<0
  ·have HV:=hid (elseZ_none (plL X) j hneg)
   obtain ⟨e,he⟩:∃ e,beZ (plL X) (j:Int)=e:=⟨_,rfl⟩;have hlo:=(beZ_lt (plL X) (j:Int)).1;rw [he] at hneg HE1 hlo;obtain rfl:e=-1:=by omega
   have hdl:decide (-1≤(j:Int)+1)=true:=decide_eq_true (by omega);clear he h3 SE hneg hlo
   go_enter Tryz.func197,Tryz.ntmps197
   go_wp2;refine wp_scope_jumps 0 (fun _ _=>False) (fun _ _=>0) rfl ?_ ?_
   ·go_wp2_with fail
    refine HI'.out.mono ?_;rintro e w1 ⟨rfl,b1⟩;have HB1:Hid (Below w.heap.size w w1):=hid (HB0.out.trans (b1.mono (by omega)));have z1:=HB1.out.size;clear b1;go_wp2_with fail;refine (HE1.out _ HB1.out).mono ?_;rintro e w2 ⟨rfl,b2⟩;have HB2:Hid (Below w.heap.size w w2):=hid (HB1.out.trans (b2.mono z1));clear b2;go_wp2
    go_step3
    go_wp2;simp only [Exit.jump];go_ret;exact ⟨by rw [HV.out];rfl,HB2.out⟩
   ·intro a w h;exact h.elim
  have HV:=hid (elseZ_from (plL X) j (by omega) h3);have HIN:=hid (fun (q:Nat) hk hq=>beZ_in35 (plL X) j q (by omega) hk hq);have hje:(j:Int)<beZ (plL X) (j:Int)∧beZ (plL X) (j:Int)<((plL X).length:Int):=by
   obtain ⟨j',hjj,_,_,h1,h2⟩:=beZ_is (plL X) (j:Int) (by omega);exact ⟨by omega,h2⟩
  obtain ⟨hje,hel⟩:=hje;obtain ⟨e,he⟩:∃ e,beZ (plL X) (j:Int)=e:=⟨_,rfl⟩;rw [he] at HV HIN HE1 hje hel;clear he h3 hneg
  go_enter Tryz.func197,Tryz.ntmps197
  go_wp2;refine wp_scope_jumps 0 (fun a' w'=>Below w.heap.size w w'∧∃ (f q:Nat) (u7 u8 u9 u10 u11 u12 u13 u14 u15 u16 u17 u18 u19 u20 u21 u22 u23 u24 u25 u26 u27 u28 u29 u30 u31 u32 u33 u34:Value),a'={ tmps:=#[.slice (some ⟨g,0,none⟩) X.length cap,.int .i64 (j:Int),undef,undef,.int .i64 0,.int .i64 (q:Int),.int .i64 e,u7,u8,u9,u10,u11,u12,u13,u14,u15,u16,u17,u18,u19,u20,u21,u22,u23,u24,u25,u26,u27,u28,u29,u30,u31,u32,u33,u34],defers:=[] }∧j≤q∧(q:Int)<e∧Hid (elseF (plL X) e f (q+1)=elseF (plL X) e (plL X).length (j+1))∧e≤(f:Int)+(q:Int)+1) (fun a' _=>(e - RowKit.intOf (a'.tmps.getD 5 undef)).toNat) rfl ?_ ?_
  ·go_wp2_with fail
   refine HI'.out.mono ?_;rintro e' w1 ⟨rfl,b1⟩;have HB1:Hid (Below w.heap.size w w1):=hid (HB0.out.trans (b1.mono (by omega)));have z1:=HB1.out.size;clear b1;go_wp2_with fail;refine (HE1.out _ HB1.out).mono ?_;rintro e' wr ⟨rfl,b2⟩;have HBR:Hid (Below w.heap.size w wr):=hid (HB1.out.trans (b2.mono z1));clear b2 HE1 HI';go_wp2
   go_step3
   obtain ⟨f,q,hjq,hqe,hf,HE,hqj⟩:∃ f q:Nat,j≤q∧(q:Int)<e∧e≤(f:Int)+(q:Int)+1∧Hid (elseF (plL X) e f (q+1)=elseF (plL X) e (plL X).length (j+1))∧q=j:=⟨(plL X).length,j,Nat.le_refl _,by omega,by omega,hid rfl,rfl⟩;subst hqj
   by_cases hlt:((q+1:Nat):Int)<e
   ·have hq:q+1<X.length:=by omega
    have hqp:q+1<(plL X).length:=by omega
    obtain ⟨g',hga,hg',⟨c0,_,_,_⟩,_⟩:=(HR.out.below HBR.out) (q+1) hq;injection hga with hga
    injection hga with hga
    subst hga;obtain ⟨f',hfe,HN0⟩:=elseF_at (plL X) e f (q+1) hlt (by omega);subst hfe;have HN:=hid HN0;clear HN0;have hlk:lkZ (plL X) ((q+1:Nat):Int)=X[q+1].kind:=by rw [lkZ_at _ _ hqp,pl_kind X (q+1) hq]
    have HI:=hid (HIN.out (q+1) (by omega) hlt);rw [hlk] at HN HI;have SQ:=hid (SE.out wr HBR.out ((q+1:Nat):Int));have hB:=HBR.out.size;obtain ⟨kd,hkd⟩:∃ kd,X[q+1].kind=kd:=⟨_,rfl⟩;rw [hkd] at c0 HN HI;have k3:(0:Int)≤(q:Int)+1:=by omega
    have k4:(q:Int)+1<(X.length:Int):=by omega
    have k5:¬ e≤(q:Int)+1:=by omega
    have hdl:decide (e≤(q:Int)+1)=false:=decide_eq_false k5;clear hkd hlk
    by_cases h35:kd=3∨kd=5
    ·have hn4:¬ kd=4:=by omega
     rw [if_neg hn4,if_pos h35] at HN;obtain ⟨E,hE,hqE,hEe⟩:=HI.out h35;rw [hE] at SQ HN;have HN':=hid (HN.out.symm.trans HE.out);rw [Int.toNat_natCast] at HN';clear hE hn4 HN HI
     rcases h35 with rfl|rfl
     all_goals
      go_wp2_with fail;refine SQ.out.mono ?_;rintro _ w2 ⟨rfl,b2⟩;have HB2:Hid (Below w.heap.size w w2):=hid (HBR.out.trans (b2.mono hB));clear b2 c0;go_wp2
      go_step3
      refine ⟨rfl,HB2.out,f',E,_,_,_,_,_,_,_,_,_,_,_,_,_,_,_,_,_,_,_,_,_,_,_,_,_,_,_,_,rfl,by omega,by omega,HN',by omega⟩
    ·rw [if_neg h35] at HN
     have a3:(kd == 3)=false:=by simp;omega
     have a5:(kd == 5)=false:=by simp;omega
     by_cases h4:kd=4
     ·subst h4
      have HN':Hid (((q+1:Nat):Int)=elseF (plL X) e (plL X).length (q+1)):=hid (by have:=HN.out;rw [if_pos rfl] at this;exact this.symm.trans HE.out);clear HN HI h35;go_wp2;simp only [Exit.jump];go_ret;exact ⟨by rw [HV.out,← HN'.out];rfl,HBR.out⟩
     ·have HN':=hid (HN.out.symm.trans HE.out)
      rw [if_neg h4] at HN';have a4:(kd == 4)=false:=by simpa using h4
      clear HN HI h35 h4;go_wp2
      go_step3
      have e1:(q:Int)+1=((q+1:Nat):Int):=by omega
      rw [e1];refine ⟨rfl,HBR.out,f',q+1,_,_,_,_,_,_,_,_,_,_,_,_,_,_,_,_,_,_,_,_,_,_,_,_,_,_,_,_,rfl,by omega,by omega,HN',by omega⟩
   ·have HN':Hid (-1=elseF (plL X) e (plL X).length (q+1)):=hid (by rw [← HE.out,elseF_out _ _ _ _ (by omega)])
    have hdl:decide (e≤(q:Int)+1)=true:=decide_eq_true (by omega);go_wp2;simp only [Exit.jump];go_ret;exact ⟨by rw [HV.out,← HN'.out];rfl,HBR.out⟩
  ·rintro a' wr ⟨hbr,f,q,u7,u8,u9,u10,u11,u12,u13,u14,u15,u16,u17,u18,u19,u20,u21,u22,u23,u24,u25,u26,u27,u28,u29,u30,u31,u32,u33,u34,rfl,hjq,hqe,HE,hf⟩
   have HBR:=hid hbr;clear hbr HE1 HI'
   by_cases hlt:((q+1:Nat):Int)<e
   ·have hq:q+1<X.length:=by omega
    have hqp:q+1<(plL X).length:=by omega
    obtain ⟨g',hga,hg',⟨c0,_,_,_⟩,_⟩:=(HR.out.below HBR.out) (q+1) hq;injection hga with hga
    injection hga with hga
    subst hga;obtain ⟨f',hfe,HN0⟩:=elseF_at (plL X) e f (q+1) hlt (by omega);subst hfe;have HN:=hid HN0;clear HN0;have hlk:lkZ (plL X) ((q+1:Nat):Int)=X[q+1].kind:=by rw [lkZ_at _ _ hqp,pl_kind X (q+1) hq]
    have HI:=hid (HIN.out (q+1) (by omega) hlt);rw [hlk] at HN HI;have SQ:=hid (SE.out wr HBR.out ((q+1:Nat):Int));have hB:=HBR.out.size;obtain ⟨kd,hkd⟩:∃ kd,X[q+1].kind=kd:=⟨_,rfl⟩;rw [hkd] at c0 HN HI;have k3:(0:Int)≤(q:Int)+1:=by omega
    have k4:(q:Int)+1<(X.length:Int):=by omega
    have k5:¬ e≤(q:Int)+1:=by omega
    have hdl:decide (e≤(q:Int)+1)=false:=decide_eq_false k5;clear hkd hlk
    by_cases h35:kd=3∨kd=5
    ·have hn4:¬ kd=4:=by omega
     rw [if_neg hn4,if_pos h35] at HN;obtain ⟨E,hE,hqE,hEe⟩:=HI.out h35;rw [hE] at SQ HN;have HN':=hid (HN.out.symm.trans HE.out);rw [Int.toNat_natCast] at HN';clear hE hn4 HN HI
     rcases h35 with rfl|rfl
     all_goals
      go_wp2_with fail;refine SQ.out.mono ?_;rintro _ w2 ⟨rfl,b2⟩;have HB2:Hid (Below w.heap.size w w2):=hid (HBR.out.trans (b2.mono hB));clear b2 c0;go_wp2
      go_step3
      refine ⟨rfl,⟨HB2.out,f',E,_,_,_,_,_,_,_,_,_,_,_,_,_,_,_,_,_,_,_,_,_,_,_,_,_,_,_,_,rfl,by omega,by omega,HN',by omega⟩,?_⟩;simp [RowKit.intOf];omega
    ·rw [if_neg h35] at HN
     have a3:(kd == 3)=false:=by simp;omega
     have a5:(kd == 5)=false:=by simp;omega
     by_cases h4:kd=4
     ·subst h4
      have HN':Hid (((q+1:Nat):Int)=elseF (plL X) e (plL X).length (j+1)):=hid (by have:=HN.out;rw [if_pos rfl] at this;exact this.symm.trans HE.out);clear HN HI h35;go_wp2;simp only [Exit.jump];go_ret;exact ⟨by rw [HV.out,← HN'.out];rfl,HBR.out⟩
     ·have HN':=hid (HN.out.symm.trans HE.out)
      rw [if_neg h4] at HN';have a4:(kd == 4)=false:=by simpa using h4
      clear HN HI h35 h4;go_wp2
      go_step3
      have e1:(q:Int)+1=((q+1:Nat):Int):=by omega
      rw [e1];refine ⟨rfl,⟨HBR.out,f',q+1,_,_,_,_,_,_,_,_,_,_,_,_,_,_,_,_,_,_,_,_,_,_,_,_,_,_,_,_,rfl,by omega,by omega,HN',by omega⟩,?_⟩;simp [RowKit.intOf];omega
   ·have HN':Hid (-1=elseF (plL X) e (plL X).length (j+1)):=hid (by rw [← HE.out,elseF_out _ _ _ _ (by omega)])
    have hdl:decide (e≤(q:Int)+1)=true:=decide_eq_true (by omega);go_wp2;simp only [Exit.jump];go_ret;exact ⟨by rw [HV.out,← HN'.out];rfl,HBR.out⟩
 ·have HV:=hid (elseZ_other (plL X) k h3)
  rw [decide_eq_false h3] at HI;have HI':=hid (HI.out _ 1 HK.out);clear HI HK h3
  go_enter Tryz.func197,Tryz.ntmps197
  go_wp2;refine wp_scope_jumps 0 (fun _ _=>False) (fun _ _=>0) rfl ?_ ?_
  ·go_wp2_with fail
   refine HI'.out.mono ?_;rintro e w1 ⟨rfl,b1⟩;have HB1:Hid (Below w.heap.size w w1):=hid (HB0.out.trans (b1.mono (by omega)));clear b1;go_wp2;simp only [Exit.jump];go_ret;exact ⟨by rw [HV.out];rfl,HB1.out⟩
  ·intro a w h;exact h.elim
end Go.Proofs.YtcflojdkaddemaaGreatDoor

namespace Go.Proofs.YtcflojdkaddemaaGreatDoor
open Go.RowKit Go.Lib
def Ans (P:Prop) (w:World) (e:Ending) (w':World):Prop:=∃ b:Bool,e=.returned (.bool b)∧(b=true↔P)∧Below w.heap.size w w'
theorem Ans.of {P:Prop} {w w':World} {e:Ending} (b:Bool) (h:e=.returned (.bool b)) (hp:b=true↔P) (hb:Below w.heap.size w w'):Ans P w e w':=⟨b,h,hp,hb⟩
theorem funI_get (p:List PLine) (i:Nat) (h:i<(funI p).length):∃ h':i<(funs p).length,(funI p)[i]=((funs p)[i]:Int):=by
 have h':i<(funs p).length:=by unfold funI at h;rwa [List.length_map] at h
 exact ⟨h',by simp [funI]⟩
theorem funI_length (p:List PLine):(funI p).length=(funs p).length:=by unfold funI;rw [List.length_map]
theorem funs_lt (p:List PLine) (i:Nat) (h:i<(funs p).length):(funs p)[i]<p.length:=by
 have:=(funF_ge p 0 _ (List.getElem_mem h)).2
 rwa [Nat.zero_add] at this
theorem follow_ends (p:List PLine) (l:List Nat):∀ n,followF p n l→∀ k ∈ l,0≤beZ p (k:Int):=by
 induction l with
 | nil=>intro n _ k hk;cases hk
 | cons x r ih =>
  intro n h k hk
  rcases List.mem_cons.1 hk with rfl|hk
  ·exact h.2.1
  ·exact ih _ h.2.2 k hk
set_option maxRecDepth 100000 in
set_option maxHeartbeats 4000000 in
theorem i_funFollow (a:Option Addr) (cap:Nat) (X:List LnL) (w:World) (hl:X.length≤1048576) (hr:ReadL 9 147 w a X) :
  Calls Tryz.prog 120 #[.slice a X.length cap] w (Ans (followF (plL X) 0 (funs (plL X))) w):=by
 have HR:=hid hr;have hpl:=plL_length X;have HF:=hid (i_funLines a cap X w hl hr);have HE:=hid (fun (W:World) (hb:Below w.heap.size w W) k=>i_endOf a cap X k W (by omega) (hr.below hb));clear hr
 go_enter Tryz.func120,Tryz.ntmps120
 go_wp2_with fail;refine HF.out.mono ?_;rintro e w1 ⟨v,rfl,hown,b1⟩;obtain ⟨av,cv,rfl⟩:=owns3_shape hown;have HRI:=hid (readI_of hown);have HB1:=hid b1;have z1:=b1.size;have hfl:=funI_length (plL X);obtain ⟨F,hF⟩:∃ F,funI (plL X)=F:=⟨_,rfl⟩;have HFG:=hid (fun i h=>funI_get (plL X) i h);rw [hF] at HRI hfl HFG;have HFL:=hid hfl;obtain ⟨n,hn⟩:∃ n,F.length=n:=⟨_,rfl⟩;rw [hn] at hfl;have hnn:n≤1048576:=by
  have h2:(funs (plL X)).length≤(plL X).length:=by
   have hh:∀ (l:List PLine) i,(funF i l).length≤l.length:=by
    intro l
    induction l with
    | nil=>intro i;exact Nat.le_refl _
    | cons x r ih =>
     intro i
     have:=ih (i+1)
     unfold funF
     split
     ·rw [List.length_cons,List.length_cons];omega
     ·rw [List.length_cons];omega
   exact hh _ 0
  omega
 have HNN:=hid hn;rw [hF,hn];clear b1 hown hF hn HF hfl;go_wp2_with fail
 go_loopw [3,5,6,10] (fun x _ _ i wr=>∃ (q:Nat) (m:Int),q≤n∧i=.int .i64 (q:Int)∧x=.int .i64 m∧0≤m∧m≤1048577∧Hid (followF (plL X) m ((funs (plL X)).drop q)↔followF (plL X) 0 (funs (plL X)))∧Below w.heap.size w wr∧Below w1.heap.size w1 wr) (fun _ _ _ i _=>n - (RowKit.intOf i).toNat)
 case atStart=>exact ⟨0,0,Nat.zero_le _,rfl,rfl,by omega,by omega,hid (by rw [List.drop_zero]),HB1.out,Below.refl _ _⟩
 case round =>
  obtain ⟨q,m,hq,rfl,rfl,hm0,hm1,HP,hbel,hbel1⟩:=hrel;have HB:=hid hbel;have HC:=hid hbel1;have hB:=hbel.size;have hC:=hbel1.size
  by_cases hlt:q<n
  ·have hqF:q<F.length:=by rw [HNN.out];exact hlt
   obtain ⟨g,rfl,hg,c0⟩:=(HRI.out.below hbel1) q hqF;obtain ⟨hq',hget⟩:=HFG.out q hqF;rw [hget] at c0;have hklt:=funs_lt (plL X) q hq';have HST:Hid (((((funs (plL X))[q]:Nat):Int)=m∧0≤beZ (plL X) (((funs (plL X))[q]:Nat):Int)∧followF (plL X) (beZ (plL X) (((funs (plL X))[q]:Nat):Int)+1) ((funs (plL X)).drop (q+1)))↔followF (plL X) 0 (funs (plL X))):=hid (by
    have:=HP.out
    rw [List.drop_eq_getElem_cons hq',followF] at this;exact this)
   obtain ⟨k,hk⟩:∃ k,(funs (plL X))[q]=k:=⟨_,rfl⟩;rw [hk] at c0 hklt HST;have hbz:=beZ_lt (plL X) (k:Int);have HEK:=hid (HE.out wr hbel k);obtain ⟨E,hE⟩:∃ E,beZ (plL X) (k:Int)=E:=⟨_,rfl⟩;rw [hE] at HST HEK hbz;have k0:(0:Int)≤(q:Int):=by omega
   have k1:(q:Int)<(n:Int):=by omega
   clear hk hE hget hqF hq' hbel hbel1
   by_cases hkm:(k:Int)=m
   ·subst hkm
    by_cases hE0:E<0
    ·have HV:Hid (¬ followF (plL X) 0 (funs (plL X))):=hid (fun h=>by have:=(HST.out.2 h).2.1;omega)
     have hd:decide (E<0)=true:=decide_eq_true hE0;clear HST;go_wp2_with fail;refine HEK.out.mono ?_;rintro e w2 ⟨rfl,b2⟩;have HB2:Hid (Below w.heap.size w w2):=hid (HB.out.trans (b2.mono hB));clear b2 c0;go_wp2;go_ret;exact Ans.of false rfl (by simpa using HV.out) HB2.out
    ·have HN:Hid (followF (plL X) (E+1) ((funs (plL X)).drop (q+1))↔followF (plL X) 0 (funs (plL X))):=hid (by
      rw [← HST.out];exact ⟨fun h=>⟨rfl,by omega,h⟩,fun h=>h.2.2⟩)
     have hd:decide (E<0)=false:=decide_eq_false hE0;clear HST HP;go_wp2_with fail;refine HEK.out.mono ?_;rintro e w2 ⟨rfl,b2⟩;have HB2:Hid (Below w.heap.size w w2):=hid (HB.out.trans (b2.mono hB));have HC2:Hid (Below w1.heap.size w1 w2):=hid (HC.out.trans (b2.mono hC));clear b2 c0;go_wp2;go_roundw
     case rel=>exact ⟨q+1,E+1,by omega,by go_num,by go_num,by omega,by omega,HN,HB2.out,HC2.out⟩
     case measure=>simp [RowKit.intOf];omega
   ·have HV:Hid (¬ followF (plL X) 0 (funs (plL X))):=hid (fun h=>hkm (HST.out.2 h).1)
    have hd:((k:Int) != m)=true:=by simpa using hkm
    clear HST hkm;go_wp2_with fail;refine HEK.out.mono ?_;rintro e w2 ⟨rfl,b2⟩;have HB2:Hid (Below w.heap.size w w2):=hid (HB.out.trans (b2.mono hB));clear b2 c0;go_wp2;go_ret;exact Ans.of false rfl (by simpa using HV.out) HB2.out
  ·have hqq:q=n:=by omega
   have HV:Hid (m=(X.length:Int)↔followF (plL X) 0 (funs (plL X))):=hid (by
    have:=HP.out
    rw [List.drop_of_length_le (by have:=HFL.out;have:=HNN.out;omega),followF,hpl] at this;exact this)
   subst hqq;clear hbel hbel1 HP;go_wp2;go_ret;exact Ans.of (m == (X.length:Int)) rfl (by rw [← HV.out];simp) HB.out
set_option maxRecDepth 100000 in
set_option maxHeartbeats 4000000 in
theorem i_nesting (a:Option Addr) (cap:Nat) (X:List LnL) (w:World) (hl:X.length≤1048576) (hr:ReadL 9 147 w a X) :
  Calls Tryz.prog 121 #[.slice a X.length cap] w (Ans (nestF 0 (plL X)) w):=by
 have HR:=hid hr;have hpl:=plL_length X;clear hr
 go_enter Tryz.func121,Tryz.ntmps121
 go_wp2_with fail
 go_loopw [3,5,8] (fun o _ i wr=>∃ (q:Nat) (z:Int),q≤X.length∧i=.int .i64 (q:Int)∧o=.int .i64 z∧-(q:Int)≤z∧z≤(q:Int)∧Hid (nestF z ((plL X).drop q)↔nestF 0 (plL X))∧Below w.heap.size w wr) (fun _ _ i _=>X.length - (RowKit.intOf i).toNat)
 case atStart=>exact ⟨0,0,Nat.zero_le _,rfl,rfl,by omega,by omega,hid (by rw [List.drop_zero]),Below.refl _ _⟩
 case round =>
  obtain ⟨q,z,hq,rfl,rfl,hz1,hz2,HP,hbel⟩:=hrel;have HB:=hid hbel;have hB:=hbel.size
  by_cases hlt:q<X.length
  ·obtain ⟨g,rfl,hg,⟨c0,c1,c2,c3⟩,hm⟩:=(HR.out.below hbel) q hlt
   have hqp:q<(plL X).length:=by omega
   have HST:Hid ((z+opn X[q].kind≤5∧nestF (z+opn X[q].kind) ((plL X).drop (q+1)))↔nestF 0 (plL X)):=hid (by
    have:=HP.out
    rw [List.drop_eq_getElem_cons hqp,nestF,pl_at X q hlt] at this;exact this)
   obtain ⟨xa,xb,xc,xd,ea,ee,_,_,_,_⟩:=inMem_shape hm;rw [ea] at c2;rw [ee] at c3;have HOP:=hid (fun W=>i_opened X[q].kind X[q].name (.slice xa X[q].args.length xc) (.slice xb X[q].expr.length xd) W);have HC:=hid (opn_cases X[q].kind);generalize X[q].kind=kd at *;generalize X[q].name=nm at *;generalize X[q].args.length=na at *;generalize X[q].expr.length=ne at *;have hob:-1≤opn kd∧opn kd≤1:=by have:=HC.out;omega
   have k0:(0:Int)≤(q:Int):=by omega
   have k1:(q:Int)<(X.length:Int):=by omega
   generalize opn kd=od at *;have HB1r:Hid (Below wr.heap.size wr (wr.alloc (.cells #[.int .i64 kd,.string nm,.slice xa na xc,.slice xb ne xd] 87))):=hid ((Below.refl _ _).alloc (Nat.le_refl _) _);have zr:(wr.alloc (.cells #[.int .i64 kd,.string nm,.slice xa na xc,.slice xb ne xd] 87)).heap.size=wr.heap.size+1:=by simp
   clear hm ea ee HC hbel HP
   by_cases h5:5<z+od
   ·have HV:Hid (¬ nestF 0 (plL X)):=hid (fun h=>by have:=(HST.out.2 h).1;omega)
    have hd:decide (5<z+od)=true:=decide_eq_true h5;clear HST h5;go_wp2_with fail;refine (HOP.out _).mono ?_;rintro e w2 ⟨rfl,b2⟩;have HB2:Hid (Below w.heap.size w w2):=hid (HB.out.trans ((HB1r.out.trans (b2.mono (by omega))).mono hB));clear b2 c0 c1 c2 c3;go_wp2;go_ret;exact Ans.of false rfl (by simpa using HV.out) HB2.out
   ·have HN:Hid (nestF (z+od) ((plL X).drop (q+1))↔nestF 0 (plL X)):=hid (by
     rw [← HST.out];exact ⟨fun h=>⟨by omega,h⟩,fun h=>h.2⟩)
    have hd:decide (5<z+od)=false:=decide_eq_false h5;clear HST h5;go_wp2_with fail;refine (HOP.out _).mono ?_;rintro e w2 ⟨rfl,b2⟩;have HB2:Hid (Below w.heap.size w w2):=hid (HB.out.trans ((HB1r.out.trans (b2.mono (by omega))).mono hB));clear b2 c0 c1 c2 c3;go_wp2;go_roundw
    case rel=>exact ⟨q+1,z+od,by omega,by go_num,by go_num,by omega,by omega,HN,HB2.out⟩
    case measure=>simp [RowKit.intOf];omega
  ·have HV:Hid (nestF 0 (plL X)):=hid (by
    have:=HP.out
    rw [List.drop_of_length_le (by omega)] at this;exact this.1 trivial)
   have hqq:q=X.length:=by omega
   subst hqq;clear hbel HP;go_wp2;go_ret;exact Ans.of true rfl (by simpa using HV.out) HB.out
set_option maxRecDepth 100000 in
set_option maxHeartbeats 4000000 in
theorem i_ifOf (a:Option Addr) (cap:Nat) (X:List LnL) (n:Nat) (w:World) (hl:X.length≤1048576) (hn:n≤1048576) (hr:ReadL 9 147 w a X) :
  Calls Tryz.prog 165 #[.slice a X.length cap,.int .i64 (n:Int)] w fun e w'=>∃ r:Int,e=.returned (.int .i64 r)∧(decide (r<0)=false↔∃ j:Nat,j<n∧elseZ (plL X) j=(n:Int))∧Below w.heap.size w w':=by
 have HE:=hid (fun (W:World) (hb:Below w.heap.size w W) k=>i_elseOf a cap X k W (by omega) (hr.below hb));clear hr
 go_enter Tryz.func165,Tryz.ntmps165
 go_wp2_with fail
 go_loopw [5,7] (fun _ i wr=>∃ q:Nat,q≤n∧i=.int .i64 (q:Int)∧Hid (∀ j:Nat,j<q→elseZ (plL X) j≠(n:Int))∧Below w.heap.size w wr) (fun _ i _=>n - (RowKit.intOf i).toNat)
 case atStart=>exact ⟨0,Nat.zero_le _,rfl,hid (fun j hj=>by omega),Below.refl _ _⟩
 case round =>
  obtain ⟨q,hq,rfl,HP,hbel⟩:=hrel;have HB:=hid hbel;have hB:=hbel.size
  by_cases hlt:q<n
  ·have HEQ:=hid (HE.out wr hbel q)
   have HPN:=hid (fun (h:elseZ (plL X) q≠(n:Int))=>show ∀ j:Nat,j<q+1→elseZ (plL X) j≠(n:Int) from fun j hj=>by
    by_cases hjq:j=q
    ·subst hjq;exact h
    ·exact HP.out j (by omega))
   have HPY:=hid (fun (h:elseZ (plL X) q=(n:Int))=>show ∃ j:Nat,j<n∧elseZ (plL X) j=(n:Int) from ⟨q,hlt,h⟩);generalize elseZ (plL X) (q:Int)=e at *;clear hbel
   by_cases he:e=(n:Int)
   ·subst he
    have HY:=hid (HPY.out rfl);have hdn:decide ((q:Int)<0)=false:=decide_eq_false (by omega);clear HPN HPY;go_wp2_with fail;refine HEQ.out.mono ?_;rintro e w2 ⟨rfl,b2⟩;have HB2:Hid (Below w.heap.size w w2):=hid (HB.out.trans (b2.mono hB));clear b2;go_wp2;go_ret;exact ⟨(q:Int),rfl,⟨fun _=>HY.out,fun _=>hdn⟩,HB2.out⟩
   ·have HN:=hid (HPN.out he)
    have hd:(e == (n:Int))=false:=by simpa using he
    clear HPN HPY he;go_wp2_with fail;refine HEQ.out.mono ?_;rintro e w2 ⟨rfl,b2⟩;have HB2:Hid (Below w.heap.size w w2):=hid (HB.out.trans (b2.mono hB));clear b2;go_wp2;go_roundw
    case rel=>exact ⟨q+1,by omega,by go_num,HN,HB2.out⟩
    case measure=>simp [RowKit.intOf];omega
  ·have HV:Hid (¬ ∃ j:Nat,j<n∧elseZ (plL X) j=(n:Int)):=hid (by
    rintro ⟨j,hj,h⟩;exact HP.out j (by omega) h)
   have hqq:q=n:=by omega
   subst hqq;clear hbel HP;go_wp2;go_ret;exact ⟨-1,rfl,⟨(fun h=>absurd h (by decide)),(fun h=>absurd h HV.out)⟩,HB.out⟩
set_option maxRecDepth 100000 in
set_option maxHeartbeats 4000000 in
theorem i_elses (a:Option Addr) (cap:Nat) (X:List LnL) (w:World) (hl:X.length≤1048576) (hr:ReadL 9 147 w a X) :
  Calls Tryz.prog 122 #[.slice a X.length cap] w (Ans (elsesF (plL X) 0 (plL X)) w):=by
 have HR:=hid hr;have hpl:=plL_length X;have HI:=hid (fun (W:World) (hb:Below w.heap.size w W) (n:Nat) (hn:n≤1048576)=>i_ifOf a cap X n W hl hn (hr.below hb));clear hr
 go_enter Tryz.func122,Tryz.ntmps122
 go_wp2_with fail
 go_loopw [3,4,7] (fun _ _ i wr=>∃ q:Nat,q≤X.length∧i=.int .i64 (q:Int)∧Hid (elsesF (plL X) q ((plL X).drop q)↔elsesF (plL X) 0 (plL X))∧Below w.heap.size w wr) (fun _ _ i _=>X.length - (RowKit.intOf i).toNat)
 case atStart=>exact ⟨0,Nat.zero_le _,rfl,hid (by rw [List.drop_zero]),Below.refl _ _⟩
 case round =>
  obtain ⟨q,hq,rfl,HP,hbel⟩:=hrel;have HB:=hid hbel;have hB:=hbel.size
  by_cases hlt:q<X.length
  ·obtain ⟨g,rfl,hg,⟨c0,c1,c2,c3⟩,hm⟩:=(HR.out.below hbel) q hlt
   have hqp:q<(plL X).length:=by omega
   have HST:Hid (((X[q].kind=4→∃ j:Nat,j<q∧elseZ (plL X) j=(q:Int))∧elsesF (plL X) (q+1) ((plL X).drop (q+1)))↔elsesF (plL X) 0 (plL X)):=hid (by
    have:=HP.out
    rw [List.drop_eq_getElem_cons hqp,elsesF,pl_at X q hlt] at this;exact this)
   obtain ⟨xa,xb,xc,xd,ea,ee,_,_,_,_⟩:=inMem_shape hm;rw [ea] at c2;rw [ee] at c3;generalize X[q].kind=kd at *;generalize X[q].name=nm at *;generalize X[q].args.length=na at *;generalize X[q].expr.length=ne at *;have k0:(0:Int)≤(q:Int):=by omega
   have k1:(q:Int)<(X.length:Int):=by omega
   have HB1r:Hid (Below wr.heap.size wr (wr.alloc (.cells #[.int .i64 kd,.string nm,.slice xa na xc,.slice xb ne xd] 87))):=hid ((Below.refl _ _).alloc (Nat.le_refl _) _);have zr:(wr.alloc (.cells #[.int .i64 kd,.string nm,.slice xa na xc,.slice xb ne xd] 87)).heap.size=wr.heap.size+1:=by simp
   have HBA:Hid (Below w.heap.size w (wr.alloc (.cells #[.int .i64 kd,.string nm,.slice xa na xc,.slice xb ne xd] 87))):=hid (HB.out.trans (HB1r.out.mono hB));have HIQ:=hid (HI.out _ HBA.out q (by omega));clear hm ea ee hbel HP
   by_cases h4:kd=4
   ·subst h4
    go_wp2_with fail;refine HIQ.out.mono ?_;rintro e w2 ⟨r,rfl,hrr,b2⟩;have HB2:Hid (Below w.heap.size w w2):=hid (HBA.out.trans (b2.mono (by omega)));have HRR:=hid hrr;clear b2 c0 c1 c2 c3 hrr
    by_cases hr0:r<0
    ·have hd:decide (r<0)=true:=decide_eq_true hr0
     have HV:Hid (¬ elsesF (plL X) 0 (plL X)):=hid (fun h=>by
      have h1:=HRR.out.2 ((HST.out.2 h).1 (by first|exact trivial|rfl));rw [hd] at h1
      cases h1)
     clear HST HRR;go_wp2;go_ret;exact Ans.of false rfl (by simpa using HV.out) HB2.out
    ·have hd:decide (r<0)=false:=decide_eq_false hr0
     have HN:Hid (elsesF (plL X) (q+1) ((plL X).drop (q+1))↔elsesF (plL X) 0 (plL X)):=hid (by
      rw [← HST.out];exact ⟨fun h=>⟨fun _=>HRR.out.1 hd,h⟩,fun h=>h.2⟩)
     clear HST HRR;go_wp2;go_roundw
     case rel=>exact ⟨q+1,by omega,by go_num,HN,HB2.out⟩
     case measure=>simp [RowKit.intOf];omega
   ·have hd:(kd == 4)=false:=by simpa using h4
    have HN:Hid (elsesF (plL X) (q+1) ((plL X).drop (q+1))↔elsesF (plL X) 0 (plL X)):=hid (by
     rw [← HST.out];exact ⟨fun h=>⟨fun h'=>absurd h' h4,h⟩,fun h=>h.2⟩)
    clear HST HIQ h4;go_wp2;go_roundw
    case rel=>exact ⟨q+1,by omega,by go_num,HN,HBA.out⟩
    case measure=>simp [RowKit.intOf];omega
  ·have HV:Hid (elsesF (plL X) 0 (plL X)):=hid (by
    have:=HP.out
    rw [List.drop_of_length_le (by omega)] at this;exact this.1 trivial)
   have hqq:q=X.length:=by omega
   subst hqq;clear hbel HP;go_wp2;go_ret;exact Ans.of true rfl (by simpa using HV.out) HB.out
end Go.Proofs.YtcflojdkaddemaaGreatDoor

namespace Go.Proofs.YtcflojdkaddemaaGreatDoor
open Go.RowKit Go.Lib
def nextZ (p:List PLine) (k:Nat) (v:Int):Int :=
 if lkZ p (k:Int)=3 then (if v=0 then (if 0≤elseZ p (k:Int) then elseZ p (k:Int)+1 else beZ p (k:Int)+1) else (k:Int)+1)
 else if lkZ p (k:Int)=5 then (if v=0 then beZ p (k:Int)+1 else (k:Int)+1)
 else if lkZ p (k:Int)=4 then beZ p (elseOpen p k:Int)+1
 else if lkZ p (k:Int)=7 then (if lkZ p (endOpen p k:Int)=5 then (endOpen p k:Int) else (k:Int)+1)
 else (k:Int)+1
theorem first_range (k q:Nat) (P:Nat→Bool) (hq:q<k) (hP:P q=true) (hno:∀ j,j<q→P j=false):(List.range k).findIdx P=q:=by
 have hlt:(List.range k).findIdx P<(List.range k).length:=List.findIdx_lt_length_of_exists ⟨q,List.mem_range.2 hq,hP⟩;have h1:=List.findIdx_getElem (w:=hlt);rw [List.getElem_range] at h1
 rcases Nat.lt_trichotomy ((List.range k).findIdx P) q with h|h|h
 ·rw [hno _ h] at h1;cases h1
 ·exact h
 ·have:=List.not_of_lt_findIdx h
  rw [List.getElem_range,hP] at this
  cases this
set_option maxRecDepth 100000 in
set_option maxHeartbeats 4000000 in
theorem i_ifOfZ (a:Option Addr) (cap:Nat) (X:List LnL) (n:Nat) (w:World) (hl:X.length≤1048576) (hn:n≤1048576) (hr:ReadL 9 147 w a X) (hlt:elseOpen (plL X) n<n) (he:elseZ (plL X) (elseOpen (plL X) n:Int)=(n:Int)) :
  Calls Tryz.prog 165 #[.slice a X.length cap,.int .i64 (n:Int)] w fun e w'=>e=.returned (.int .i64 (elseOpen (plL X) n:Int))∧Below w.heap.size w w':=by
 have HE:=hid (fun (W:World) (hb:Below w.heap.size w W) k=>i_elseOf a cap X k W (by omega) (hr.below hb));have HFI:Hid (∀ q:Nat,q<elseOpen (plL X) n→elseZ (plL X) (q:Int)≠(n:Int)):=hid (fun q hq=>by
  have h:=List.not_of_lt_findIdx (p:=fun (i:Nat)=>decide (elseZ (plL X) (i:Int)=(n:Int))) (xs:=List.range n) hq;intro e;rw [List.getElem_range] at h;simp [e] at h)
 obtain ⟨o,ho⟩:∃ o,elseOpen (plL X) n=o:=⟨_,rfl⟩;rw [ho] at hlt he HFI;rw [ho];have HEO:=hid he;clear hr he ho
 go_enter Tryz.func165,Tryz.ntmps165
 go_wp2_with fail
 go_loopw [5,7] (fun _ i wr=>∃ q:Nat,q≤o∧i=.int .i64 (q:Int)∧Below w.heap.size w wr) (fun _ i _=>n - (RowKit.intOf i).toNat)
 case atStart=>exact ⟨0,Nat.zero_le _,rfl,Below.refl _ _⟩
 case round =>
  obtain ⟨q,hq,rfl,hbel⟩:=hrel;have HB:=hid hbel;have hB:=hbel.size;have hqn:(q:Int)<(n:Int):=by omega
  have SE1:=hid (HE.out wr hbel (q:Int))
  by_cases hqe:q=o
  ·subst hqe
   rw [HEO.out] at SE1;clear hbel;go_wp2_with fail;refine SE1.out.mono ?_;rintro e w1 ⟨rfl,b1⟩;have HB1:Hid (Below w.heap.size w w1):=hid (HB.out.trans (b1.mono hB));clear b1 SE1;go_wp2;go_ret;exact ⟨rfl,HB1.out⟩
  ·have HNE:=hid (HFI.out q (by omega))
   obtain ⟨ev,hev⟩:∃ ev,elseZ (plL X) (q:Int)=ev:=⟨_,rfl⟩;rw [hev] at SE1 HNE;have hd:(ev == (n:Int))=false:=by simpa using HNE.out
   clear hev HNE hbel;go_wp2_with fail;refine SE1.out.mono ?_;rintro e w1 ⟨rfl,b1⟩;have HB1:Hid (Below w.heap.size w w1):=hid (HB.out.trans (b1.mono hB));clear b1 SE1;go_wp2;go_roundw
   case rel=>exact ⟨q+1,by omega,by go_num,HB1.out⟩
   case measure=>simp [RowKit.intOf];omega
set_option maxRecDepth 100000 in
set_option maxHeartbeats 4000000 in
theorem i_blockOf (a:Option Addr) (cap:Nat) (X:List LnL) (n:Nat) (w:World) (hl:X.length≤1048576) (hn:n≤1048576) (hr:ReadL 9 147 w a X) :
  Calls Tryz.prog 228 #[.slice a X.length cap,.int .i64 (n:Int)] w fun e w'=>e=.returned (.int .i64 (if endOpen (plL X) n<n then (endOpen (plL X) n:Int) else -1))∧Below w.heap.size w w':=by
 have HE:=hid (fun (W:World) (hb:Below w.heap.size w W) k=>i_endOf a cap X k W (by omega) (hr.below hb));obtain ⟨R,hR⟩:∃ R,(if endOpen (plL X) n<n then (endOpen (plL X) n:Int) else -1)=R:=⟨_,rfl⟩;rw [hR];have HRR:=hid hR;clear hr hR
 go_enter Tryz.func228,Tryz.ntmps228
 go_wp2_with fail
 go_loopw [5,7] (fun _ i wr=>∃ q:Nat,q≤n∧i=.int .i64 (q:Int)∧Hid (∀ j:Nat,j<q→beZ (plL X) (j:Int)≠(n:Int))∧Below w.heap.size w wr) (fun _ i _=>n - (RowKit.intOf i).toNat)
 case atStart=>exact ⟨0,Nat.zero_le _,rfl,hid (fun j hj=>by omega),Below.refl _ _⟩
 case round =>
  obtain ⟨q,hq,rfl,HP,hbel⟩:=hrel;have HB:=hid hbel;have hB:=hbel.size
  by_cases hlt:q<n
  ·have hqn:(q:Int)<(n:Int):=by omega
   have SE1:=hid (HE.out wr hbel (q:Int));obtain ⟨ev,hev⟩:∃ ev,beZ (plL X) (q:Int)=ev:=⟨_,rfl⟩;rw [hev] at SE1
   by_cases hqe:ev=(n:Int)
   ·subst hqe
    have HV:Hid ((if endOpen (plL X) n<n then (endOpen (plL X) n:Int) else -1)=(q:Int)):=hid (by
     have h:endOpen (plL X) n=q:=first_range n q (fun (i:Nat)=>decide (beZ (plL X) (i:Int)=(n:Int))) hlt (decide_eq_true hev) (fun j hj=>decide_eq_false (HP.out j hj));rw [h,if_pos hlt])
    clear hev hbel;go_wp2_with fail;refine SE1.out.mono ?_;rintro e w1 ⟨rfl,b1⟩;have HB1:Hid (Below w.heap.size w w1):=hid (HB.out.trans (b1.mono hB));clear b1 SE1;go_wp2;go_ret;exact ⟨by rw [← HRR.out,HV.out];rfl,HB1.out⟩
   ·have HPN:Hid (∀ j:Nat,j<q+1→beZ (plL X) (j:Int)≠(n:Int)):=hid (fun j hj=>by
     by_cases hjq:j=q
     ·rw [hjq,hev];exact hqe
     ·exact HP.out j (by omega))
    have hd:(ev == (n:Int))=false:=by simpa using hqe
    clear hev hqe hbel;go_wp2_with fail;refine SE1.out.mono ?_;rintro e w1 ⟨rfl,b1⟩;have HB1:Hid (Below w.heap.size w w1):=hid (HB.out.trans (b1.mono hB));clear b1 SE1;go_wp2;go_roundw
    case rel=>exact ⟨q+1,by omega,by go_num,HPN,HB1.out⟩
    case measure=>simp [RowKit.intOf];omega
  ·have hqq:q=n:=by omega
   subst hqq;have HV:Hid ((if endOpen (plL X) q<q then (endOpen (plL X) q:Int) else -1)=-1):=hid (by
    rw [if_neg];intro h;exact HP.out _ h (end_open (by omega)).2)
   have hlt':¬ (q:Int)<(q:Int):=by omega
   clear hbel;go_wp2;go_ret;exact ⟨by rw [← HRR.out,HV.out];rfl,HB.out⟩
set_option maxHeartbeats 1000000 in
theorem i_elseOrEnd (a:Option Addr) (cap:Nat) (X:List LnL) (k:Int) (w:World) (hl:X.length≤1048576) (hr:ReadL 9 147 w a X) :
  Calls Tryz.prog 231 #[.slice a X.length cap,.int .i64 k] w fun e w'=>e=.returned (.int .i64 (if 0≤elseZ (plL X) k then elseZ (plL X) k else beZ (plL X) k))∧Below w.heap.size w w':=by
 have SL:=hid (i_elseOf a cap X k w (by omega) hr);have SE:=hid (fun (W:World) (hb:Below w.heap.size w W)=>i_endOf a cap X k W (by omega) (hr.below hb));clear hr;obtain ⟨ev,hev⟩:∃ ev,elseZ (plL X) k=ev:=⟨_,rfl⟩;rw [hev] at SL;rw [hev];obtain ⟨R,hR⟩:∃ R,(if 0≤ev then ev else beZ (plL X) k)=R:=⟨_,rfl⟩;rw [hR];have HRR:=hid hR;clear hev hR
 by_cases h:0≤ev
 ·have HH:=hid h
  go_enter Tryz.func231,Tryz.ntmps231
  go_wp2_with fail;refine SL.out.mono ?_;rintro e w1 ⟨rfl,b1⟩;have HB1:=hid b1;clear b1;go_wp2;go_ret;exact ⟨by rw [← HRR.out,if_pos HH.out];rfl,HB1.out⟩
 ·have hd:decide (0≤ev)=false:=decide_eq_false h
  have HH:=hid h;clear h
  go_enter Tryz.func231,Tryz.ntmps231
  go_wp2_with fail;refine SL.out.mono ?_;rintro e w1 ⟨rfl,b1⟩;have HB1:=hid b1;have z1:=b1.size;clear b1;go_wp2_with fail;refine (SE.out _ HB1.out).mono ?_;rintro e w2 ⟨rfl,b2⟩;have HB2:Hid (Below w.heap.size w w2):=hid (HB1.out.trans (b2.mono z1));clear b2;go_wp2;go_ret;exact ⟨by rw [← HRR.out,if_neg (by have h:=HH.out;omega)];rfl,HB2.out⟩
set_option maxRecDepth 100000 in
set_option maxHeartbeats 4000000 in
theorem i_next (a:Option Addr) (cap:Nat) (X:List LnL) (k:Nat) (v:Int) (w:World) (hl:X.length≤60) (hk:k<X.length) (hr:ReadL 9 147 w a X) (he:X[k].kind=4→elseOpen (plL X) k<k∧elseZ (plL X) (elseOpen (plL X) k:Int)=(k:Int)) :
  Calls Tryz.prog 227 #[.slice a X.length cap,.int .i64 (k:Int),.int .i64 v] w fun e w'=>e=.returned (.int .i64 (nextZ (plL X) k v))∧Below w.heap.size w w':=by
 have HR:=hid hr;have hkp:k<(plL X).length:=by rw [plL_length];exact hk
 have hlk:lkZ (plL X) (k:Int)=X[k].kind:=by rw [lkZ_at _ _ hkp,pl_kind X k hk]
 obtain ⟨g,rfl,hg,⟨c0,_,_,_⟩,_⟩:=hr k hk;have k0:(0:Int)≤(k:Int):=by omega
 have k1:(k:Int)<(X.length:Int):=by omega
 have hb:=beZ_lt (plL X) (k:Int);rw [plL_length] at hb;obtain ⟨R,hR⟩:∃ R,nextZ (plL X) k v=R:=⟨_,rfl⟩;rw [hR];have HRR:=hid hR;unfold nextZ at HRR;rw [hlk] at HRR;have HE:=hid he;have HLK:=hid hlk;generalize X[k].kind=kd at *;clear hr hR hlk he
 by_cases h3:kd=3
 ·subst h3
  by_cases hv:v=0
  ·subst hv
   rw [if_pos rfl,if_pos rfl] at HRR;have SE:=hid (i_elseOrEnd (some ⟨g,0,none⟩) cap X (k:Int) w (by omega) HR.out);obtain ⟨q,hq⟩:∃ q,(if 0≤elseZ (plL X) (k:Int) then elseZ (plL X) (k:Int) else beZ (plL X) (k:Int))=q:=⟨_,rfl⟩;have HQ:Hid (q+1=R):=hid (by rw [← hq,← HRR.out];split <;> rfl);have hq1:-1≤q∧q≤60:=by
    rw [← hq]
    split
    ·have:=elseZ_lt (plL X) (k:Int) (by assumption);omega
    ·omega
   rw [hq] at SE;clear hq HRR hb
   go_enter Tryz.func227,Tryz.ntmps227
   go_wp2_with fail;refine SE.out.mono ?_;rintro e w1 ⟨rfl,b1⟩;have HB1:=hid b1;clear b1;go_wp2;go_ret;exact ⟨by rw [← HQ.out];rfl,HB1.out⟩
  ·rw [if_pos rfl,if_neg hv] at HRR
   have hd:(v == 0)=false:=by simpa using hv
   clear hv hb
   go_enter Tryz.func227,Tryz.ntmps227
   go_wp2;go_ret;exact ⟨by rw [← HRR.out];rfl,Below.refl _ _⟩
 rw [if_neg h3] at HRR
 by_cases h5:kd=5
 ·subst h5
  clear h3
  by_cases hv:v=0
  ·subst hv
   rw [if_pos rfl,if_pos rfl] at HRR;have SE:=hid (i_endOf (some ⟨g,0,none⟩) cap X (k:Int) w (by omega) HR.out);obtain ⟨q,hq⟩:∃ q,beZ (plL X) (k:Int)=q:=⟨_,rfl⟩;rw [hq] at SE HRR hb;clear hq;have hb1:-1≤q∧q≤60:=by omega
   clear hb
   go_enter Tryz.func227,Tryz.ntmps227
   go_wp2_with fail;refine SE.out.mono ?_;rintro e w1 ⟨rfl,b1⟩;have HB1:=hid b1;clear b1;go_wp2;go_ret;exact ⟨by rw [← HRR.out];rfl,HB1.out⟩
  ·rw [if_pos rfl,if_neg hv] at HRR
   have hd:(v == 0)=false:=by simpa using hv
   clear hv hb
   go_enter Tryz.func227,Tryz.ntmps227
   go_wp2;go_ret;exact ⟨by rw [← HRR.out];rfl,Below.refl _ _⟩
 rw [if_neg h5] at HRR
 by_cases h4:kd=4
 ·subst h4
  rw [if_pos rfl] at HRR;have hee:=HE.out rfl;have SI:=hid (i_ifOfZ (some ⟨g,0,none⟩) cap X k w (by omega) (by omega) HR.out hee.1 hee.2);have SE:=hid (fun W (hb:Below w.heap.size w W)=>i_endOf (some ⟨g,0,none⟩) cap X (elseOpen (plL X) k:Int) W (by omega) (HR.out.below hb));have hb2:=beZ_lt (plL X) (elseOpen (plL X) k:Int);rw [plL_length] at hb2;obtain ⟨q,hq⟩:∃ q,beZ (plL X) (elseOpen (plL X) k:Int)=q:=⟨_,rfl⟩;rw [hq] at SE HRR hb2;have hb1:-1≤q∧q≤60:=by omega
  clear h3 h5 hee hq hb hb2 HE
  go_enter Tryz.func227,Tryz.ntmps227
  go_wp2_with fail;refine SI.out.mono ?_;rintro e w1 ⟨rfl,b1⟩;have HB1:=hid b1;have z1:=b1.size;clear b1;go_wp2_with fail;refine (SE.out _ HB1.out).mono ?_;rintro e w2 ⟨rfl,b2⟩;have HB2:Hid (Below w.heap.size w w2):=hid (HB1.out.trans (b2.mono z1));clear b2;go_wp2;go_ret;exact ⟨by rw [← HRR.out];rfl,HB2.out⟩
 rw [if_neg h4] at HRR
 by_cases h7:kd=7
 ·subst h7
  rw [if_pos rfl] at HRR;have SB:=hid (i_blockOf (some ⟨g,0,none⟩) cap X k w (by omega) (by omega) HR.out);obtain ⟨o,ho⟩:∃ o:Int,(if endOpen (plL X) k<k then (endOpen (plL X) k:Int) else -1)=o:=⟨_,rfl⟩;rw [ho] at SB;have SL:=hid (fun W (hb:Below w.heap.size w W) b d h=>i_lineIs (some ⟨g,0,none⟩) cap X o b d [5] W (by omega) (HR.out.below hb) h (by decide) (by decide))
  by_cases hw:lkZ (plL X) o=5
  ·have hoe:(endOpen (plL X) k:Int)=o:=by
    rw [← ho];rw [if_pos]
    rcases Nat.lt_or_ge (endOpen (plL X) k) k with h|h
    ·exact h
    ·exfalso
     rw [if_neg (by omega)] at ho;rw [← ho] at hw;unfold lkZ at hw;rw [if_pos (by decide)] at hw;exact absurd hw (by decide)
   have HV:Hid (o=R):=hid (by rw [hoe] at HRR;rw [← HRR.out,if_pos hw]);have hm:memI [5] (lkZ (plL X) o)=true:=by rw [hw];decide
   rw [hm] at SL;clear h3 h5 h4 hm hw hoe ho HE HRR hb
   go_enter Tryz.func227,Tryz.ntmps227
   go_wp2_with fail;refine SB.out.mono ?_;rintro e w1 ⟨rfl,b1⟩;have HB1:=hid b1;have z1:=b1.size;have HB1c:Hid (Below w.heap.size w (w1.alloc (.cells #[.int .i64 5] 3))):=hid (HB1.out.alloc z1 _);have SL1:=hid (SL.out _ HB1c.out (some ⟨w1.heap.size,0,none⟩) 1 (readI_of (by have h:=World.ownsRow_lit (e:=3) (size:=1) (base:=0) w1 #[.int .i64 5] 1 (Nat.zero_le _) (by decide) rfl;exact h)));clear b1;go_wp2_with fail;refine SL1.out.mono ?_;rintro e w2 ⟨rfl,b2⟩;have HB2:Hid (Below w.heap.size w w2):=hid (HB1c.out.trans (b2.mono (by have:=HB1c.out.size;omega)));clear b2;go_wp2;go_ret;exact ⟨by rw [← HV.out];rfl,HB2.out⟩
  ·have HV:Hid ((k:Int)+1=R):=hid (by
    have h:=HRR.out;rw [if_neg] at h
    ·exact h
    ·intro h9
     apply hw;rw [← ho]
     split
     ·exact h9
     ·rename_i hge
      exfalso
      have:endOpen (plL X) k=k:=by
       rcases Nat.lt_or_ge (endOpen (plL X) k) k with h'|h'
       ·exact absurd h' hge
       ·have:=List.findIdx_le_length (p:=fun (i:Nat)=>decide (beZ (plL X) (i:Int)=(k:Int))) (xs:=List.range k)
        rw [List.length_range] at this;unfold endOpen at h' ⊢;omega
      rw [this,HLK.out] at h9;exact absurd h9 (by decide))
   have hm:memI [5] (lkZ (plL X) o)=false:=by
    cases h:memI [5] (lkZ (plL X) o) with
    | false=>rfl
    | true=>exact absurd (by unfold memI at h;simpa using h) hw
   rw [hm] at SL;clear h3 h5 h4 hm hw ho HE HRR hb
   go_enter Tryz.func227,Tryz.ntmps227
   go_wp2_with fail;refine SB.out.mono ?_;rintro e w1 ⟨rfl,b1⟩;have HB1:=hid b1;have z1:=b1.size;have HB1c:Hid (Below w.heap.size w (w1.alloc (.cells #[.int .i64 5] 3))):=hid (HB1.out.alloc z1 _);have SL1:=hid (SL.out _ HB1c.out (some ⟨w1.heap.size,0,none⟩) 1 (readI_of (by have h:=World.ownsRow_lit (e:=3) (size:=1) (base:=0) w1 #[.int .i64 5] 1 (Nat.zero_le _) (by decide) rfl;exact h)));clear b1;go_wp2_with fail;refine SL1.out.mono ?_;rintro e w2 ⟨rfl,b2⟩;have HB2:Hid (Below w.heap.size w w2):=hid (HB1c.out.trans (b2.mono (by have:=HB1c.out.size;omega)));clear b2;go_wp2;go_ret;exact ⟨by rw [← HV.out];rfl,HB2.out⟩
 rw [if_neg h7] at HRR;have d3:(kd == 3)=false:=by simpa using h3
 have d5:(kd == 5)=false:=by simpa using h5
 have d4:(kd == 4)=false:=by simpa using h4
 have d7:(kd == 7)=false:=by simpa using h7
 clear h3 h5 h4 h7 HE hb
 go_enter Tryz.func227,Tryz.ntmps227
 go_wp2;go_ret;exact ⟨by rw [← HRR.out];rfl,Below.refl _ _⟩
end Go.Proofs.YtcflojdkaddemaaGreatDoor
