/- Parts of the proof. -/
import Derived.Test.YtcflojdkaddemaaGreatDoorI23
namespace Go.Proofs.YtcflojdkaddemaaGreatDoor
open Go.RowKit Go.Lib
theorem opn_two:opn 3=1∧opn 5=1∧opn 7=-1∧opn 4=0:=by decide
set_option maxRecDepth 100000 in
set_option maxHeartbeats 16000000 in
theorem s_body (a:Option Addr) (cap:Nat) (X:List LnL) (k E:Nat) (w:World) (hl:X.length≤1048576) (hr:ReadL 9 147 w a X) (hz:SzAl X) (hkE:k<E) (hE:E<X.length) :
  Calls Tryz.prog 54 #[.slice a X.length cap,.int .i64 (k:Int),.int .i64 (E:Int)] w (Ans ((locZ (plL X) (k:Int)).length≤8∧bodyL (plL X) k (locZ (plL X) (k:Int)) 0 (k+1) (segZ (plL X) (k+1) E)) w):=by
 have HR:=hid hr;have HZ:=hid hz;have hpl:=plL_length X;have HLO:=hid (s_localsOf a cap X k w hl hr (fun x hx=>(hz x hx).2.1));have HEL:=hid (fun (W:World) (hb:Below w.heap.size w W) (j:Int)=>s_elseOf a cap X j W (by omega) (hr.below hb));obtain ⟨g,ha,hg,_⟩:=hr k (by omega);subst ha;clear hr hz;obtain ⟨L,hL⟩:∃ L,locZ (plL X) (k:Int)=L:=⟨_,rfl⟩;rw [hL] at HLO ⊢;obtain ⟨T,hT⟩:∃ T,bodyL (plL X) k L 0 (k+1) (segZ (plL X) (k+1) E)=T:=⟨_,rfl⟩;rw [hT];have HT0:=hid hT;clear hL hT
 go_enter Tryz.func54,Tryz.ntmps54
 go_wp2_with fail;refine HLO.out.mono ?_;rintro _ w2 ⟨vl,rfl,hownl,b2⟩;obtain ⟨al,cl,rfl⟩:=owns_shape hownl;have HB2:=hid b2;have z2:=b2.size;have RS2:=hid (reads_of hownl);clear b2 hownl HLO
 by_cases h8:8<L.length
 ·have HV:Hid (¬ (L.length≤8∧T)):=hid (fun h=>by omega)
  have hd:decide (8<(L.length:Int))=true:=decide_eq_true (by omega);go_wp2;go_ret;exact Ans.of false rfl (by simpa using HV.out) HB2.out
 have hd:decide (8<(L.length:Int))=false:=decide_eq_false (by omega);have hL8:L.length≤8:=by omega
 go_wp2_with fail;clear hd
 go_loopw [8,9,10,11,12,13,14] (fun o i _ _ _ _ _ wr=>∃ (q:Nat) (D:Int),k+1≤q∧q≤E∧i=.int .i64 (q:Int)∧o=.int .i64 D∧-(q:Int)≤D∧D≤(q:Int)∧Hid (bodyL (plL X) k L D q (segZ (plL X) q E)↔T)∧Below w.heap.size w wr∧Below w2.heap.size w2 wr) (fun _ i _ _ _ _ _ _=>E - (RowKit.intOf i).toNat)
 case atStart=>exact ⟨k+1,0,Nat.le_refl _,by omega,by go_num,rfl,by omega,by omega,hid (by rw [HT0.out]),HB2.out,Below.refl _ _⟩
 case round =>
  rename World=>wr
  obtain ⟨q,D,hkq,hqE,rfl,rfl,hD1,hD2,HP,hbel,hbel2⟩:=hrel;have HB:=hid hbel;have HC:=hid hbel2;have hB:=hbel.size;have hC:=hbel2.size
  by_cases hlt:q<E
  ·have hqX:q<X.length:=by omega
   have hqp:q<(plL X).length:=by omega
   obtain ⟨g',hga,hg',⟨c0,_,_,c3⟩,hm⟩:=(HR.out.below hbel) q hqX;injection hga with hga
   injection hga with hga
   subst hga;have hxz:=HZ.out _ (List.getElem_mem hqX);have HST:Hid (((X[q].kind≠0∧(X[q].kind=4→∃ j:Nat,k≤j∧j<q∧elseZ (plL X) j=(q:Int))∧D+opn X[q].kind≤4∧∀ t ∈ X[q].expr,knownP (plL X) L t)∧bodyL (plL X) k L (D+opn X[q].kind) (q+1) (segZ (plL X) (q+1) E))↔T):=hid (by
    have:=HP.out
    rw [seg_next _ q E hlt hqp,bodyL,pl_at X q hqX] at this;exact this)
   obtain ⟨_,xb,_,xd,_,ee,_,rt,_,_⟩:=inMem_shape hm;rw [ee] at c3;have hel:X[q].expr.length≤1048576:=hxz.2.2.2.1;have HTX:=hid rt;generalize X[q].kind=kd at *;generalize X[q].expr=ex at *;have HL3:Hid (∀ W,Below wr.heap.size wr W→W.cell? ⟨g,q*4+3,none⟩=some (.slice xb ex.length xd)):=hid (fun W hb=>(hb.cell (p:=⟨g,q*4+3,none⟩) hg').trans c3);have HRS:=hid (fun (W:World) (hb:Below wr.heap.size wr W)=>RS2.out.below (hbel2.trans (hb.mono hC)));have HELr:=hid (fun (W:World) (hb:Below wr.heap.size wr W) (j:Int)=>HEL.out W (hbel.trans (hb.mono hB)) j);have k0:(0:Int)≤(q:Int):=by omega
   have k1:(q:Int)<(X.length:Int):=by omega
   have k2:(q:Int)<(E:Int):=by omega
   clear hm ee rt hxz HP hbel hbel2 c3;obtain ⟨o3,o5,o7,o4⟩:=opn_two
   by_cases hk0:kd=0
   ·have HV:Hid (¬ T):=hid (fun h=>(HST.out.2 h).1.1 hk0)
    subst hk0;clear HST;go_wp2;go_ret;exact Ans.of false rfl (by first|exact ⟨(fun h=>by cases h),(fun h=>absurd h.2 HV.out)⟩|exact ⟨(fun h=>by cases h),(fun h=>absurd h HV.out)⟩) HB.out
   have a0:(kd == 0)=false:=by simpa using hk0
   by_cases hk4:kd=4
   ·subst hk4
    have HS0:Hid (((∃ j:Nat,k≤j∧j<q∧elseZ (plL X) j=(q:Int))∧D≤4∧(∀ t ∈ ex,knownP (plL X) L t)∧bodyL (plL X) k L D (q+1) (segZ (plL X) (q+1) E))↔T):=hid (by
     rw [← HST.out,o4,Int.add_zero];exact ⟨fun h=>⟨⟨by decide,fun _=>h.1,h.2.1,h.2.2.1⟩,h.2.2.2⟩,fun h=>⟨h.1.2.1 rfl,h.1.2.2.1,h.1.2.2.2,h.2⟩⟩)
    clear HST o3 o5 o7 o4 hk0;go_wp2_with fail;clear c0
    go_loopw [10,11] (fun f j wy=>∃ (m:Nat) (b:Bool),k≤m∧m≤q∧j=.int .i64 (m:Int)∧f=.bool b∧Hid (b=true↔∃ i:Nat,k≤i∧i<m∧elseZ (plL X) i=(q:Int))∧Below wr.heap.size wr wy) (fun _ j _=>q - (RowKit.intOf j).toNat)
    case atStart=>exact ⟨k,false,Nat.le_refl _,by omega,rfl,rfl,hid ⟨(fun h=>by cases h),(fun ⟨i,h1,h2,_⟩=>by omega)⟩,Below.refl _ _⟩
    case round =>
     rename World=>wy
     obtain ⟨m,b,hkm,hmq,rfl,rfl,HF,hby⟩:=hrel;have HQ:=hid hby;have hBY:=hby.size
     by_cases hlm:m<q
     ·have HEM:=hid (HELr.out wy hby m)
      have HFY:=hid (fun (h:b=true)=>show (∃ i:Nat,k≤i∧i<m+1∧elseZ (plL X) i=(q:Int)) from (by
       obtain ⟨i,h1,h2,h3⟩:=HF.out.1 h;exact ⟨i,h1,by omega,h3⟩))
      have HFE:Hid (b=false→((elseZ (plL X) (m:Int) == (q:Int))=true↔∃ i:Nat,k≤i∧i<m+1∧elseZ (plL X) i=(q:Int))):=hid (fun hb=>by
       constructor
       ·intro h
        exact ⟨m,hkm,by omega,by simpa using h⟩
       ·rintro ⟨i,h1,h2,h3⟩
        by_cases hi:i=m
        ·subst hi;simpa using h3
        ·have:=HF.out.2 ⟨i,h1,by omega,h3⟩
         rw [hb] at this
         cases this)
      generalize elseZ (plL X) (m:Int)=em at *;have m2:(m:Int)<(q:Int):=by omega
      clear hby HF
      cases b
      ·have HFE1:=hid (HFE.out rfl)
       obtain ⟨b2,hb2⟩:∃ b2,(em == (q:Int))=b2:=⟨_,rfl⟩;rw [hb2] at HFE1;clear HFE HFY;go_wp2_with fail;refine HEM.out.mono ?_;rintro _ w5 ⟨rfl,b5⟩;have HB5:Hid (Below wr.heap.size wr w5):=hid (HQ.out.trans (b5.mono hBY));clear b5;go_wp2;go_roundw
       case rel=>exact ⟨m+1,b2,by omega,by omega,by go_num,rfl,HFE1,HB5.out⟩
       case measure=>simp [RowKit.intOf];omega
      ·have HN:Hid (true=true↔∃ i:Nat,k≤i∧i<m+1∧elseZ (plL X) i=(q:Int)):=hid ⟨fun _=>HFY.out rfl,fun _=>rfl⟩
       clear HFE HFY HEM;go_wp2;go_roundw
       case rel=>exact ⟨m+1,true,by omega,by omega,by go_num,rfl,HN,HQ.out⟩
       case measure=>simp [RowKit.intOf];omega
     ·have hmm:m=q:=by omega
      subst hmm
      cases b
      ·have HV:Hid (¬ T):=hid (fun h=>by have:=HF.out.2 (HS0.out.2 h).1;cases this)
       have HBF:Hid (Below w.heap.size w wy):=hid (HB.out.trans (hby.mono hB));clear HS0 HF hby;go_wp2;go_ret;exact Ans.of false rfl (by first|exact ⟨(fun h=>by cases h),(fun h=>absurd h.2 HV.out)⟩|exact ⟨(fun h=>by cases h),(fun h=>absurd h HV.out)⟩) HBF.out
      ·have HS:Hid ((D≤4∧(∀ t ∈ ex,knownP (plL X) L t)∧bodyL (plL X) k L D (m+1) (segZ (plL X) (m+1) E))↔T):=hid (by
        rw [← HS0.out];exact ⟨fun h=>⟨HF.out.1 rfl,h⟩,fun h=>h.2⟩)
       clear HS0 HF hby
       by_cases h4:4<D
       ·have HV:Hid (¬ T):=hid (fun h=>by have:=(HS.out.2 h).1;omega)
        have hd4:decide (4<D)=true:=decide_eq_true h4;have HBF:Hid (Below w.heap.size w wy):=hid (HB.out.trans (HQ.out.mono hB));clear HS;go_wp2;go_ret;exact Ans.of false rfl (by first|exact ⟨(fun h=>by cases h),(fun h=>absurd h.2 HV.out)⟩|exact ⟨(fun h=>by cases h),(fun h=>absurd h HV.out)⟩) HBF.out
       ·have HS2:Hid (((∀ t ∈ ex,knownP (plL X) L t)∧bodyL (plL X) k L (D) (m+1) (segZ (plL X) (m+1) E))↔T):=hid (by
         rw [← HS.out];exact ⟨fun h=>⟨by omega,h⟩,fun h=>h.2⟩)
        have hd4:decide (4<D)=false:=decide_eq_false h4;clear HS;go_wp2_with fail
        go_loopw [12,13,14] (fun i _ _ wx=>∃ mm:Nat,mm≤ex.length∧i=.int .i64 (mm:Int)∧Hid (∀ j,∀ h:j<ex.length,j<mm→knownP (plL X) L ex[j])∧Below wr.heap.size wr wx) (fun i _ _ _=>ex.length - (RowKit.intOf i).toNat)
        case atStart=>exact ⟨0,Nat.zero_le _,rfl,hid (fun j _ h=>by omega),HQ.out⟩
        case round =>
         rename World=>wx
         obtain ⟨mm,hm,rfl,HM,hbx⟩:=hrel;have HBX:=hid hbx;have hBX:=hbx.size;have e3:=HL3.out wx hbx
         by_cases hlm:mm<ex.length
         ·obtain ⟨gx,hxe,hgx,t0,t1,t2⟩:=(HTX.out.below hbx) mm hlm
          subst hxe;have HMN:=hid (fun (h:knownP (plL X) L ex[mm])=>show ∀ j,∀ h:j<ex.length,j<mm+1→knownP (plL X) L ex[j] from fun j hj hjm=>by
           by_cases hjj:j=mm
           ·subst hjj;exact h
           ·exact HM.out j hj (by omega))
          have HMX:=hid (fun (h:T)=>(HS2.out.2 h).1 _ (List.getElem_mem hlm));obtain ⟨t,ht⟩:∃ t,ex[mm]=t:=⟨_,rfl⟩;rw [ht] at HMN HMX t0 t1 t2;have HKB:=hid (knownB_iff (plL X) L t);obtain ⟨tk,tn,tm⟩:=t;dsimp only at t0 t1 t2;have m0:(0:Int)≤(mm:Int):=by omega
          have m1:(mm:Int)<(ex.length:Int):=by omega
          have hb6:=(Below.refl wx.heap.size wx).alloc (Nat.le_refl _) (.cells #[.int .i64 tk,.int .i64 tn,.string tm] 147);have HB6:Hid (Below wr.heap.size wr (wx.alloc (.cells #[.int .i64 tk,.int .i64 tn,.string tm] 147))):=hid (hbx.trans (hb6.mono hBX));have HB6w:Hid (Below w.heap.size w (wx.alloc (.cells #[.int .i64 tk,.int .i64 tn,.string tm] 147))):=hid (HB.out.trans (HB6.out.mono hB));have X6:=hid (heap_alloc_new wx (.cells #[.int .i64 tk,.int .i64 tn,.string tm] 147));have tz6:(wx.alloc (.cells #[.int .i64 tk,.int .i64 tn,.string tm] 147)).heap.size=wx.heap.size+1:=by simp
          clear ht hbx hb6 HM
          by_cases h1:tk=1
          ·subst h1
           have HIX:=hid (s_l04Index al cl L tm (wx.alloc (.cells #[.int .i64 1,.int .i64 tn,.string tm] 147)) (HRS.out _ HB6.out) (by omega));have HIL:=hid (ixS_lt L tm);have HKV:Hid (knownB (plL X) L ⟨1,tn,tm⟩=memB L tm):=hid rfl;obtain ⟨r,hr⟩:∃ r,ixS L tm=r:=⟨_,rfl⟩;rw [hr] at HIX HIL;obtain ⟨b,hb⟩:∃ b,memB L tm=b:=⟨_,rfl⟩;rw [hb] at HIL HKV;clear hr hb
           cases b
           ·have hdr:decide (r<0)=true:=HIL.out
            have HV:Hid (¬ T):=hid (fun h=>by
             have:=HKB.out.2 (HMX.out h)
             rw [HKV.out] at this
             cases this)
            clear HKB HMX HMN HKV HIL;go_wp2_with fail;refine HIX.out.mono ?_;rintro _ w7 ⟨rfl,b7⟩;have HB7:Hid (Below w.heap.size w w7):=hid (HB6w.out.trans (b7.mono (by omega)));clear b7 t0 t1 t2 e3;go_wp2;go_ret;exact Ans.of false rfl (by first|exact ⟨(fun h=>by cases h),(fun h=>absurd h.2 HV.out)⟩|exact ⟨(fun h=>by cases h),(fun h=>absurd h HV.out)⟩) HB7.out
           ·have hdr:decide (r<0)=false:=HIL.out
            have HN:=hid (HMN.out (HKB.out.1 (HKV.out)));clear HKB HMX HMN HKV HIL;go_wp2_with fail;refine HIX.out.mono ?_;rintro _ w7 ⟨rfl,b7⟩;have HB7:Hid (Below wr.heap.size wr w7):=hid (HB6.out.trans (b7.mono (by omega)));have X7:=hid ((b7.block _ (by omega)).trans X6.out);have u0:w7.cell? ⟨wx.heap.size,0,none⟩=some (.int .i64 1):=(blk X7.out).1 0 _ rfl;clear b7 t0 t1 t2 e3;go_wp2;go_roundw
            case rel=>exact ⟨mm+1,by omega,by go_num,HN,HB7.out⟩
            case measure=>simp [RowKit.intOf];omega
          have a1:(tk == 1)=false:=by simpa using h1
          by_cases h7:tk=7
          ·subst h7
           have HFF:=hid (s_findFn (some ⟨g,0,none⟩) cap X tm _ (by omega) (HR.out.below HB6w.out));have HKV:Hid (knownB (plL X) L ⟨7,tn,tm⟩=(decide (0≤findZ (plL X) tm)&&decide (((argsZ (plL X) (findZ (plL X) tm)).length:Int)=tn))):=hid rfl;have HBD:=hid (findZ_bd (plL X) tm)
           by_cases h0:0≤findZ (plL X) tm
           ·obtain ⟨f,hf⟩:=Int.eq_ofNat_of_zero_le h0
            have hfX:f<X.length:=by have:=HBD.out;omega
            obtain ⟨g2,hga,hg2,⟨_,_,c2,_⟩,hmf⟩:=(HR.out.below HB6w.out) f hfX;injection hga with hga
            injection hga with hga
            subst hga;obtain ⟨fa,_,fc,_,ea,_,_,_,_,_⟩:=inMem_shape hmf;rw [ea] at c2;have HVV:Hid (knownB (plL X) L ⟨7,tn,tm⟩=decide ((X[f].args.length:Int)=tn)):=hid (by
             rw [HKV.out,hf,argsZ_at X f hfX,decide_eq_true (by omega)];rfl)
            rw [hf] at HFF;generalize X[f].args.length=na at *;have f0:(0:Int)≤(f:Int):=by omega
            have f1:(f:Int)<(X.length:Int):=by omega
            have hd0:decide ((f:Int)<0)=false:=decide_eq_false (by omega);clear hf h0 hmf ea HKV HBD;go_wp2_with fail;refine HFF.out.mono ?_;rintro _ w7 ⟨rfl,b7⟩;have HB7:Hid (Below wr.heap.size wr w7):=hid (HB6.out.trans (b7.mono (by omega)));have HB7w:Hid (Below w.heap.size w w7):=hid (HB6w.out.trans (b7.mono (by omega)));have X7:=hid ((b7.block _ (by omega)).trans X6.out);have u1:w7.cell? ⟨wx.heap.size,1,none⟩=some (.int .i64 tn):=(blk X7.out).1 1 _ rfl;have d2:w7.cell? ⟨g,f*4+2,none⟩=some (.slice fa na fc):=(b7.cell (p:=⟨g,f*4+2,none⟩) hg2).trans c2;clear b7 c2 t0 t1 t2 e3
            by_cases hna:(na:Int)=tn
            ·have hdn:((na:Int) != tn)=false:=by simpa using hna
             have HN:=hid (HMN.out (HKB.out.1 (HVV.out.trans (decide_eq_true hna))));clear hna HVV HKB HMX HMN;go_wp2_with fail;go_quiet (fail)
             all_goals
              go_wp2;go_roundw
              case rel=>exact ⟨mm+1,by omega,by go_num,HN,below_drewN HB7.out _⟩
              case measure=>simp [RowKit.intOf];omega
            ·have hdn:((na:Int) != tn)=true:=by simpa using hna
             have HV:Hid (¬ T):=hid (fun h=>by
              have:=HKB.out.2 (HMX.out h)
              rw [HVV.out,decide_eq_false hna] at this
              cases this)
             clear hna HVV HKB HMX HMN;go_wp2_with fail;go_quiet (fail)
             all_goals
              go_wp2;go_ret;exact Ans.of false rfl (by first|exact ⟨(fun h=>by cases h),(fun h=>absurd h.2 HV.out)⟩|exact ⟨(fun h=>by cases h),(fun h=>absurd h HV.out)⟩) (below_drewN HB7w.out _)
           ·have HV:Hid (¬ T):=hid (fun h=>by
             have:=HKB.out.2 (HMX.out h)
             rw [HKV.out,decide_eq_false h0] at this
             cases this)
            obtain ⟨r,hr⟩:∃ r,findZ (plL X) tm=r:=⟨_,rfl⟩;rw [hr] at HFF h0;have hd0:decide (r<0)=true:=decide_eq_true (by omega);clear hr HKV HBD HKB HMX HMN;go_wp2_with fail;refine HFF.out.mono ?_;rintro _ w7 ⟨rfl,b7⟩;have HB7w:Hid (Below w.heap.size w w7):=hid (HB6w.out.trans (b7.mono (by omega)));clear b7 t0 t1 t2 e3;go_wp2_with fail;go_quiet (fail)
            all_goals
             go_wp2;go_ret;exact Ans.of false rfl (by first|exact ⟨(fun h=>by cases h),(fun h=>absurd h.2 HV.out)⟩|exact ⟨(fun h=>by cases h),(fun h=>absurd h HV.out)⟩) (below_drewN HB7w.out _)
          ·have a7:(tk == 7)=false:=by simpa using h7
           have HN:=hid (HMN.out (HKB.out.1 (by unfold knownB;rw [if_neg h1,if_neg h7])));clear h1 h7 HKB HMX HMN;go_wp2;go_roundw
           case rel=>exact ⟨mm+1,by omega,by go_num,HN,HB6.out⟩
           case measure=>simp [RowKit.intOf];omega
         ·have HN:Hid (bodyL (plL X) k L (D) (m+1) (segZ (plL X) (m+1) E)↔T):=hid (by
           rw [← HS2.out];refine ⟨fun h=>⟨fun t ht=>?_,h⟩,fun h=>h.2⟩;obtain ⟨j,hj,rfl⟩:=List.mem_iff_getElem.1 ht;exact HM.out j hj (by omega))
          have hmm:mm=ex.length:=by omega
          have HBE:Hid (Below w.heap.size w wx):=hid (HB.out.trans (hbx.mono hB));have HBE2:Hid (Below w2.heap.size w2 wx):=hid (HC.out.trans (hbx.mono hC));subst hmm;clear hbx HM HS2;go_wp2;go_roundw
          case rel=>exact ⟨m+1,D,by omega,by omega,by go_num,by go_num,by omega,by omega,HN,HBE.out,HBE2.out⟩
          case measure=>simp [RowKit.intOf];omega
   have a4:(kd == 4)=false:=by simpa using hk4
   by_cases hk3:kd=3
   ·subst hk3
    rw [o3] at HST;have HS:Hid ((D+1≤4∧(∀ t ∈ ex,knownP (plL X) L t)∧bodyL (plL X) k L (D+1) (q+1) (segZ (plL X) (q+1) E))↔T):=hid (by
     rw [← HST.out];exact ⟨fun h=>⟨⟨by decide,(fun h4=>absurd h4 (by decide)),h.1,h.2.1⟩,h.2.2⟩,fun h=>⟨h.1.2.2.1,h.1.2.2.2,h.2⟩⟩)
    clear HST;clear o3 o5 o7 o4;have HQ:Hid (Below wr.heap.size wr wr):=hid (Below.refl _ _)
    by_cases h4:4<D+1
    ·have HV:Hid (¬ T):=hid (fun h=>by have:=(HS.out.2 h).1;omega)
     have hd4:decide (4<D+1)=true:=decide_eq_true h4;have HBF:Hid (Below w.heap.size w wr):=hid (HB.out.trans (HQ.out.mono hB));clear HS;go_wp2;go_ret;exact Ans.of false rfl (by first|exact ⟨(fun h=>by cases h),(fun h=>absurd h.2 HV.out)⟩|exact ⟨(fun h=>by cases h),(fun h=>absurd h HV.out)⟩) HBF.out
    ·have HS2:Hid (((∀ t ∈ ex,knownP (plL X) L t)∧bodyL (plL X) k L (D+1) (q+1) (segZ (plL X) (q+1) E))↔T):=hid (by
      rw [← HS.out];exact ⟨fun h=>⟨by omega,h⟩,fun h=>h.2⟩)
     have hd4:decide (4<D+1)=false:=decide_eq_false h4;clear HS;go_wp2_with fail
     go_loopw [12,13,14] (fun i _ _ wx=>∃ m:Nat,m≤ex.length∧i=.int .i64 (m:Int)∧Hid (∀ j,∀ h:j<ex.length,j<m→knownP (plL X) L ex[j])∧Below wr.heap.size wr wx) (fun i _ _ _=>ex.length - (RowKit.intOf i).toNat)
     case atStart=>exact ⟨0,Nat.zero_le _,rfl,hid (fun j _ h=>by omega),HQ.out⟩
     case round =>
      rename World=>wx
      obtain ⟨m,hm,rfl,HM,hbx⟩:=hrel;have HBX:=hid hbx;have hBX:=hbx.size;have e3:=HL3.out wx hbx
      by_cases hlm:m<ex.length
      ·obtain ⟨gx,hxe,hgx,t0,t1,t2⟩:=(HTX.out.below hbx) m hlm
       subst hxe;have HMN:=hid (fun (h:knownP (plL X) L ex[m])=>show ∀ j,∀ h:j<ex.length,j<m+1→knownP (plL X) L ex[j] from fun j hj hjm=>by
        by_cases hjj:j=m
        ·subst hjj;exact h
        ·exact HM.out j hj (by omega))
       have HMX:=hid (fun (h:T)=>(HS2.out.2 h).1 _ (List.getElem_mem hlm));obtain ⟨t,ht⟩:∃ t,ex[m]=t:=⟨_,rfl⟩;rw [ht] at HMN HMX t0 t1 t2;have HKB:=hid (knownB_iff (plL X) L t);obtain ⟨tk,tn,tm⟩:=t;dsimp only at t0 t1 t2;have m0:(0:Int)≤(m:Int):=by omega
       have m1:(m:Int)<(ex.length:Int):=by omega
       have hb6:=(Below.refl wx.heap.size wx).alloc (Nat.le_refl _) (.cells #[.int .i64 tk,.int .i64 tn,.string tm] 147);have HB6:Hid (Below wr.heap.size wr (wx.alloc (.cells #[.int .i64 tk,.int .i64 tn,.string tm] 147))):=hid (hbx.trans (hb6.mono hBX));have HB6w:Hid (Below w.heap.size w (wx.alloc (.cells #[.int .i64 tk,.int .i64 tn,.string tm] 147))):=hid (HB.out.trans (HB6.out.mono hB));have X6:=hid (heap_alloc_new wx (.cells #[.int .i64 tk,.int .i64 tn,.string tm] 147));have tz6:(wx.alloc (.cells #[.int .i64 tk,.int .i64 tn,.string tm] 147)).heap.size=wx.heap.size+1:=by simp
       clear ht hbx hb6 HM
       by_cases h1:tk=1
       ·subst h1
        have HIX:=hid (s_l04Index al cl L tm (wx.alloc (.cells #[.int .i64 1,.int .i64 tn,.string tm] 147)) (HRS.out _ HB6.out) (by omega));have HIL:=hid (ixS_lt L tm);have HKV:Hid (knownB (plL X) L ⟨1,tn,tm⟩=memB L tm):=hid rfl;obtain ⟨r,hr⟩:∃ r,ixS L tm=r:=⟨_,rfl⟩;rw [hr] at HIX HIL;obtain ⟨b,hb⟩:∃ b,memB L tm=b:=⟨_,rfl⟩;rw [hb] at HIL HKV;clear hr hb
        cases b
        ·have hdr:decide (r<0)=true:=HIL.out
         have HV:Hid (¬ T):=hid (fun h=>by
          have:=HKB.out.2 (HMX.out h)
          rw [HKV.out] at this
          cases this)
         clear HKB HMX HMN HKV HIL;go_wp2_with fail;refine HIX.out.mono ?_;rintro _ w7 ⟨rfl,b7⟩;have HB7:Hid (Below w.heap.size w w7):=hid (HB6w.out.trans (b7.mono (by omega)));clear b7 t0 t1 t2 e3;go_wp2;go_ret;exact Ans.of false rfl (by first|exact ⟨(fun h=>by cases h),(fun h=>absurd h.2 HV.out)⟩|exact ⟨(fun h=>by cases h),(fun h=>absurd h HV.out)⟩) HB7.out
        ·have hdr:decide (r<0)=false:=HIL.out
         have HN:=hid (HMN.out (HKB.out.1 (HKV.out)));clear HKB HMX HMN HKV HIL;go_wp2_with fail;refine HIX.out.mono ?_;rintro _ w7 ⟨rfl,b7⟩;have HB7:Hid (Below wr.heap.size wr w7):=hid (HB6.out.trans (b7.mono (by omega)));have X7:=hid ((b7.block _ (by omega)).trans X6.out);have u0:w7.cell? ⟨wx.heap.size,0,none⟩=some (.int .i64 1):=(blk X7.out).1 0 _ rfl;clear b7 t0 t1 t2 e3;go_wp2;go_roundw
         case rel=>exact ⟨m+1,by omega,by go_num,HN,HB7.out⟩
         case measure=>simp [RowKit.intOf];omega
       have a1:(tk == 1)=false:=by simpa using h1
       by_cases h7:tk=7
       ·subst h7
        have HFF:=hid (s_findFn (some ⟨g,0,none⟩) cap X tm _ (by omega) (HR.out.below HB6w.out));have HKV:Hid (knownB (plL X) L ⟨7,tn,tm⟩=(decide (0≤findZ (plL X) tm)&&decide (((argsZ (plL X) (findZ (plL X) tm)).length:Int)=tn))):=hid rfl;have HBD:=hid (findZ_bd (plL X) tm)
        by_cases h0:0≤findZ (plL X) tm
        ·obtain ⟨f,hf⟩:=Int.eq_ofNat_of_zero_le h0
         have hfX:f<X.length:=by have:=HBD.out;omega
         obtain ⟨g2,hga,hg2,⟨_,_,c2,_⟩,hmf⟩:=(HR.out.below HB6w.out) f hfX;injection hga with hga
         injection hga with hga
         subst hga;obtain ⟨fa,_,fc,_,ea,_,_,_,_,_⟩:=inMem_shape hmf;rw [ea] at c2;have HVV:Hid (knownB (plL X) L ⟨7,tn,tm⟩=decide ((X[f].args.length:Int)=tn)):=hid (by
          rw [HKV.out,hf,argsZ_at X f hfX,decide_eq_true (by omega)];rfl)
         rw [hf] at HFF;generalize X[f].args.length=na at *;have f0:(0:Int)≤(f:Int):=by omega
         have f1:(f:Int)<(X.length:Int):=by omega
         have hd0:decide ((f:Int)<0)=false:=decide_eq_false (by omega);clear hf h0 hmf ea HKV HBD;go_wp2_with fail;refine HFF.out.mono ?_;rintro _ w7 ⟨rfl,b7⟩;have HB7:Hid (Below wr.heap.size wr w7):=hid (HB6.out.trans (b7.mono (by omega)));have HB7w:Hid (Below w.heap.size w w7):=hid (HB6w.out.trans (b7.mono (by omega)));have X7:=hid ((b7.block _ (by omega)).trans X6.out);have u1:w7.cell? ⟨wx.heap.size,1,none⟩=some (.int .i64 tn):=(blk X7.out).1 1 _ rfl;have d2:w7.cell? ⟨g,f*4+2,none⟩=some (.slice fa na fc):=(b7.cell (p:=⟨g,f*4+2,none⟩) hg2).trans c2;clear b7 c2 t0 t1 t2 e3
         by_cases hna:(na:Int)=tn
         ·have hdn:((na:Int) != tn)=false:=by simpa using hna
          have HN:=hid (HMN.out (HKB.out.1 (HVV.out.trans (decide_eq_true hna))));clear hna HVV HKB HMX HMN;go_wp2_with fail;go_quiet (fail)
          all_goals
           go_wp2;go_roundw
           case rel=>exact ⟨m+1,by omega,by go_num,HN,below_drewN HB7.out _⟩
           case measure=>simp [RowKit.intOf];omega
         ·have hdn:((na:Int) != tn)=true:=by simpa using hna
          have HV:Hid (¬ T):=hid (fun h=>by
           have:=HKB.out.2 (HMX.out h)
           rw [HVV.out,decide_eq_false hna] at this
           cases this)
          clear hna HVV HKB HMX HMN;go_wp2_with fail;go_quiet (fail)
          all_goals
           go_wp2;go_ret;exact Ans.of false rfl (by first|exact ⟨(fun h=>by cases h),(fun h=>absurd h.2 HV.out)⟩|exact ⟨(fun h=>by cases h),(fun h=>absurd h HV.out)⟩) (below_drewN HB7w.out _)
        ·have HV:Hid (¬ T):=hid (fun h=>by
          have:=HKB.out.2 (HMX.out h)
          rw [HKV.out,decide_eq_false h0] at this
          cases this)
         obtain ⟨r,hr⟩:∃ r,findZ (plL X) tm=r:=⟨_,rfl⟩;rw [hr] at HFF h0;have hd0:decide (r<0)=true:=decide_eq_true (by omega);clear hr HKV HBD HKB HMX HMN;go_wp2_with fail;refine HFF.out.mono ?_;rintro _ w7 ⟨rfl,b7⟩;have HB7w:Hid (Below w.heap.size w w7):=hid (HB6w.out.trans (b7.mono (by omega)));clear b7 t0 t1 t2 e3;go_wp2_with fail;go_quiet (fail)
         all_goals
          go_wp2;go_ret;exact Ans.of false rfl (by first|exact ⟨(fun h=>by cases h),(fun h=>absurd h.2 HV.out)⟩|exact ⟨(fun h=>by cases h),(fun h=>absurd h HV.out)⟩) (below_drewN HB7w.out _)
       ·have a7:(tk == 7)=false:=by simpa using h7
        have HN:=hid (HMN.out (HKB.out.1 (by unfold knownB;rw [if_neg h1,if_neg h7])));clear h1 h7 HKB HMX HMN;go_wp2;go_roundw
        case rel=>exact ⟨m+1,by omega,by go_num,HN,HB6.out⟩
        case measure=>simp [RowKit.intOf];omega
      ·have HN:Hid (bodyL (plL X) k L (D+1) (q+1) (segZ (plL X) (q+1) E)↔T):=hid (by
        rw [← HS2.out];refine ⟨fun h=>⟨fun t ht=>?_,h⟩,fun h=>h.2⟩;obtain ⟨j,hj,rfl⟩:=List.mem_iff_getElem.1 ht;exact HM.out j hj (by omega))
       have hmm:m=ex.length:=by omega
       have HBE:Hid (Below w.heap.size w wx):=hid (HB.out.trans (hbx.mono hB));have HBE2:Hid (Below w2.heap.size w2 wx):=hid (HC.out.trans (hbx.mono hC));subst hmm;clear hbx HM HS2;go_wp2;go_roundw
       case rel=>exact ⟨q+1,D+1,by omega,by omega,by go_num,by go_num,by omega,by omega,HN,HBE.out,HBE2.out⟩
       case measure=>simp [RowKit.intOf];omega
   have a3:(kd == 3)=false:=by simpa using hk3
   by_cases hk5:kd=5
   ·subst hk5
    rw [o5] at HST;have HS:Hid ((D+1≤4∧(∀ t ∈ ex,knownP (plL X) L t)∧bodyL (plL X) k L (D+1) (q+1) (segZ (plL X) (q+1) E))↔T):=hid (by
     rw [← HST.out];exact ⟨fun h=>⟨⟨by decide,(fun h4=>absurd h4 (by decide)),h.1,h.2.1⟩,h.2.2⟩,fun h=>⟨h.1.2.2.1,h.1.2.2.2,h.2⟩⟩)
    clear HST;clear o3 o5 o7 o4;have HQ:Hid (Below wr.heap.size wr wr):=hid (Below.refl _ _)
    by_cases h4:4<D+1
    ·have HV:Hid (¬ T):=hid (fun h=>by have:=(HS.out.2 h).1;omega)
     have hd4:decide (4<D+1)=true:=decide_eq_true h4;have HBF:Hid (Below w.heap.size w wr):=hid (HB.out.trans (HQ.out.mono hB));clear HS;go_wp2;go_ret;exact Ans.of false rfl (by first|exact ⟨(fun h=>by cases h),(fun h=>absurd h.2 HV.out)⟩|exact ⟨(fun h=>by cases h),(fun h=>absurd h HV.out)⟩) HBF.out
    ·have HS2:Hid (((∀ t ∈ ex,knownP (plL X) L t)∧bodyL (plL X) k L (D+1) (q+1) (segZ (plL X) (q+1) E))↔T):=hid (by
      rw [← HS.out];exact ⟨fun h=>⟨by omega,h⟩,fun h=>h.2⟩)
     have hd4:decide (4<D+1)=false:=decide_eq_false h4;clear HS;go_wp2_with fail
     go_loopw [12,13,14] (fun i _ _ wx=>∃ m:Nat,m≤ex.length∧i=.int .i64 (m:Int)∧Hid (∀ j,∀ h:j<ex.length,j<m→knownP (plL X) L ex[j])∧Below wr.heap.size wr wx) (fun i _ _ _=>ex.length - (RowKit.intOf i).toNat)
     case atStart=>exact ⟨0,Nat.zero_le _,rfl,hid (fun j _ h=>by omega),HQ.out⟩
     case round =>
      rename World=>wx
      obtain ⟨m,hm,rfl,HM,hbx⟩:=hrel;have HBX:=hid hbx;have hBX:=hbx.size;have e3:=HL3.out wx hbx
      by_cases hlm:m<ex.length
      ·obtain ⟨gx,hxe,hgx,t0,t1,t2⟩:=(HTX.out.below hbx) m hlm
       subst hxe;have HMN:=hid (fun (h:knownP (plL X) L ex[m])=>show ∀ j,∀ h:j<ex.length,j<m+1→knownP (plL X) L ex[j] from fun j hj hjm=>by
        by_cases hjj:j=m
        ·subst hjj;exact h
        ·exact HM.out j hj (by omega))
       have HMX:=hid (fun (h:T)=>(HS2.out.2 h).1 _ (List.getElem_mem hlm));obtain ⟨t,ht⟩:∃ t,ex[m]=t:=⟨_,rfl⟩;rw [ht] at HMN HMX t0 t1 t2;have HKB:=hid (knownB_iff (plL X) L t);obtain ⟨tk,tn,tm⟩:=t;dsimp only at t0 t1 t2;have m0:(0:Int)≤(m:Int):=by omega
       have m1:(m:Int)<(ex.length:Int):=by omega
       have hb6:=(Below.refl wx.heap.size wx).alloc (Nat.le_refl _) (.cells #[.int .i64 tk,.int .i64 tn,.string tm] 147);have HB6:Hid (Below wr.heap.size wr (wx.alloc (.cells #[.int .i64 tk,.int .i64 tn,.string tm] 147))):=hid (hbx.trans (hb6.mono hBX));have HB6w:Hid (Below w.heap.size w (wx.alloc (.cells #[.int .i64 tk,.int .i64 tn,.string tm] 147))):=hid (HB.out.trans (HB6.out.mono hB));have X6:=hid (heap_alloc_new wx (.cells #[.int .i64 tk,.int .i64 tn,.string tm] 147));have tz6:(wx.alloc (.cells #[.int .i64 tk,.int .i64 tn,.string tm] 147)).heap.size=wx.heap.size+1:=by simp
       clear ht hbx hb6 HM
       by_cases h1:tk=1
       ·subst h1
        have HIX:=hid (s_l04Index al cl L tm (wx.alloc (.cells #[.int .i64 1,.int .i64 tn,.string tm] 147)) (HRS.out _ HB6.out) (by omega));have HIL:=hid (ixS_lt L tm);have HKV:Hid (knownB (plL X) L ⟨1,tn,tm⟩=memB L tm):=hid rfl;obtain ⟨r,hr⟩:∃ r,ixS L tm=r:=⟨_,rfl⟩;rw [hr] at HIX HIL;obtain ⟨b,hb⟩:∃ b,memB L tm=b:=⟨_,rfl⟩;rw [hb] at HIL HKV;clear hr hb
        cases b
        ·have hdr:decide (r<0)=true:=HIL.out
         have HV:Hid (¬ T):=hid (fun h=>by
          have:=HKB.out.2 (HMX.out h)
          rw [HKV.out] at this
          cases this)
         clear HKB HMX HMN HKV HIL;go_wp2_with fail;refine HIX.out.mono ?_;rintro _ w7 ⟨rfl,b7⟩;have HB7:Hid (Below w.heap.size w w7):=hid (HB6w.out.trans (b7.mono (by omega)));clear b7 t0 t1 t2 e3;go_wp2;go_ret;exact Ans.of false rfl (by first|exact ⟨(fun h=>by cases h),(fun h=>absurd h.2 HV.out)⟩|exact ⟨(fun h=>by cases h),(fun h=>absurd h HV.out)⟩) HB7.out
        ·have hdr:decide (r<0)=false:=HIL.out
         have HN:=hid (HMN.out (HKB.out.1 (HKV.out)));clear HKB HMX HMN HKV HIL;go_wp2_with fail;refine HIX.out.mono ?_;rintro _ w7 ⟨rfl,b7⟩;have HB7:Hid (Below wr.heap.size wr w7):=hid (HB6.out.trans (b7.mono (by omega)));have X7:=hid ((b7.block _ (by omega)).trans X6.out);have u0:w7.cell? ⟨wx.heap.size,0,none⟩=some (.int .i64 1):=(blk X7.out).1 0 _ rfl;clear b7 t0 t1 t2 e3;go_wp2;go_roundw
         case rel=>exact ⟨m+1,by omega,by go_num,HN,HB7.out⟩
         case measure=>simp [RowKit.intOf];omega
       have a1:(tk == 1)=false:=by simpa using h1
       by_cases h7:tk=7
       ·subst h7
        have HFF:=hid (s_findFn (some ⟨g,0,none⟩) cap X tm _ (by omega) (HR.out.below HB6w.out));have HKV:Hid (knownB (plL X) L ⟨7,tn,tm⟩=(decide (0≤findZ (plL X) tm)&&decide (((argsZ (plL X) (findZ (plL X) tm)).length:Int)=tn))):=hid rfl;have HBD:=hid (findZ_bd (plL X) tm)
        by_cases h0:0≤findZ (plL X) tm
        ·obtain ⟨f,hf⟩:=Int.eq_ofNat_of_zero_le h0
         have hfX:f<X.length:=by have:=HBD.out;omega
         obtain ⟨g2,hga,hg2,⟨_,_,c2,_⟩,hmf⟩:=(HR.out.below HB6w.out) f hfX;injection hga with hga
         injection hga with hga
         subst hga;obtain ⟨fa,_,fc,_,ea,_,_,_,_,_⟩:=inMem_shape hmf;rw [ea] at c2;have HVV:Hid (knownB (plL X) L ⟨7,tn,tm⟩=decide ((X[f].args.length:Int)=tn)):=hid (by
          rw [HKV.out,hf,argsZ_at X f hfX,decide_eq_true (by omega)];rfl)
         rw [hf] at HFF;generalize X[f].args.length=na at *;have f0:(0:Int)≤(f:Int):=by omega
         have f1:(f:Int)<(X.length:Int):=by omega
         have hd0:decide ((f:Int)<0)=false:=decide_eq_false (by omega);clear hf h0 hmf ea HKV HBD;go_wp2_with fail;refine HFF.out.mono ?_;rintro _ w7 ⟨rfl,b7⟩;have HB7:Hid (Below wr.heap.size wr w7):=hid (HB6.out.trans (b7.mono (by omega)));have HB7w:Hid (Below w.heap.size w w7):=hid (HB6w.out.trans (b7.mono (by omega)));have X7:=hid ((b7.block _ (by omega)).trans X6.out);have u1:w7.cell? ⟨wx.heap.size,1,none⟩=some (.int .i64 tn):=(blk X7.out).1 1 _ rfl;have d2:w7.cell? ⟨g,f*4+2,none⟩=some (.slice fa na fc):=(b7.cell (p:=⟨g,f*4+2,none⟩) hg2).trans c2;clear b7 c2 t0 t1 t2 e3
         by_cases hna:(na:Int)=tn
         ·have hdn:((na:Int) != tn)=false:=by simpa using hna
          have HN:=hid (HMN.out (HKB.out.1 (HVV.out.trans (decide_eq_true hna))));clear hna HVV HKB HMX HMN;go_wp2_with fail;go_quiet (fail)
          all_goals
           go_wp2;go_roundw
           case rel=>exact ⟨m+1,by omega,by go_num,HN,below_drewN HB7.out _⟩
           case measure=>simp [RowKit.intOf];omega
         ·have hdn:((na:Int) != tn)=true:=by simpa using hna
          have HV:Hid (¬ T):=hid (fun h=>by
           have:=HKB.out.2 (HMX.out h)
           rw [HVV.out,decide_eq_false hna] at this
           cases this)
          clear hna HVV HKB HMX HMN;go_wp2_with fail;go_quiet (fail)
          all_goals
           go_wp2;go_ret;exact Ans.of false rfl (by first|exact ⟨(fun h=>by cases h),(fun h=>absurd h.2 HV.out)⟩|exact ⟨(fun h=>by cases h),(fun h=>absurd h HV.out)⟩) (below_drewN HB7w.out _)
        ·have HV:Hid (¬ T):=hid (fun h=>by
          have:=HKB.out.2 (HMX.out h)
          rw [HKV.out,decide_eq_false h0] at this
          cases this)
         obtain ⟨r,hr⟩:∃ r,findZ (plL X) tm=r:=⟨_,rfl⟩;rw [hr] at HFF h0;have hd0:decide (r<0)=true:=decide_eq_true (by omega);clear hr HKV HBD HKB HMX HMN;go_wp2_with fail;refine HFF.out.mono ?_;rintro _ w7 ⟨rfl,b7⟩;have HB7w:Hid (Below w.heap.size w w7):=hid (HB6w.out.trans (b7.mono (by omega)));clear b7 t0 t1 t2 e3;go_wp2_with fail;go_quiet (fail)
         all_goals
          go_wp2;go_ret;exact Ans.of false rfl (by first|exact ⟨(fun h=>by cases h),(fun h=>absurd h.2 HV.out)⟩|exact ⟨(fun h=>by cases h),(fun h=>absurd h HV.out)⟩) (below_drewN HB7w.out _)
       ·have a7:(tk == 7)=false:=by simpa using h7
        have HN:=hid (HMN.out (HKB.out.1 (by unfold knownB;rw [if_neg h1,if_neg h7])));clear h1 h7 HKB HMX HMN;go_wp2;go_roundw
        case rel=>exact ⟨m+1,by omega,by go_num,HN,HB6.out⟩
        case measure=>simp [RowKit.intOf];omega
      ·have HN:Hid (bodyL (plL X) k L (D+1) (q+1) (segZ (plL X) (q+1) E)↔T):=hid (by
        rw [← HS2.out];refine ⟨fun h=>⟨fun t ht=>?_,h⟩,fun h=>h.2⟩;obtain ⟨j,hj,rfl⟩:=List.mem_iff_getElem.1 ht;exact HM.out j hj (by omega))
       have hmm:m=ex.length:=by omega
       have HBE:Hid (Below w.heap.size w wx):=hid (HB.out.trans (hbx.mono hB));have HBE2:Hid (Below w2.heap.size w2 wx):=hid (HC.out.trans (hbx.mono hC));subst hmm;clear hbx HM HS2;go_wp2;go_roundw
       case rel=>exact ⟨q+1,D+1,by omega,by omega,by go_num,by go_num,by omega,by omega,HN,HBE.out,HBE2.out⟩
       case measure=>simp [RowKit.intOf];omega
   have a5:(kd == 5)=false:=by simpa using hk5
   by_cases hk7:kd=7
   ·subst hk7
    rw [o7] at HST;have HS:Hid ((D+-1≤4∧(∀ t ∈ ex,knownP (plL X) L t)∧bodyL (plL X) k L (D+-1) (q+1) (segZ (plL X) (q+1) E))↔T):=hid (by
     rw [← HST.out];exact ⟨fun h=>⟨⟨by decide,(fun h4=>absurd h4 (by decide)),h.1,h.2.1⟩,h.2.2⟩,fun h=>⟨h.1.2.2.1,h.1.2.2.2,h.2⟩⟩)
    clear HST;clear o3 o5 o7 o4;have HQ:Hid (Below wr.heap.size wr wr):=hid (Below.refl _ _)
    by_cases h4:4<D+-1
    ·have HV:Hid (¬ T):=hid (fun h=>by have:=(HS.out.2 h).1;omega)
     have hd4:decide (4<D+-1)=true:=decide_eq_true h4;have HBF:Hid (Below w.heap.size w wr):=hid (HB.out.trans (HQ.out.mono hB));clear HS;go_wp2;go_ret;exact Ans.of false rfl (by first|exact ⟨(fun h=>by cases h),(fun h=>absurd h.2 HV.out)⟩|exact ⟨(fun h=>by cases h),(fun h=>absurd h HV.out)⟩) HBF.out
    ·have HS2:Hid (((∀ t ∈ ex,knownP (plL X) L t)∧bodyL (plL X) k L (D+-1) (q+1) (segZ (plL X) (q+1) E))↔T):=hid (by
      rw [← HS.out];exact ⟨fun h=>⟨by omega,h⟩,fun h=>h.2⟩)
     have hd4:decide (4<D+-1)=false:=decide_eq_false h4;clear HS;go_wp2_with fail
     go_loopw [12,13,14] (fun i _ _ wx=>∃ m:Nat,m≤ex.length∧i=.int .i64 (m:Int)∧Hid (∀ j,∀ h:j<ex.length,j<m→knownP (plL X) L ex[j])∧Below wr.heap.size wr wx) (fun i _ _ _=>ex.length - (RowKit.intOf i).toNat)
     case atStart=>exact ⟨0,Nat.zero_le _,rfl,hid (fun j _ h=>by omega),HQ.out⟩
     case round =>
      rename World=>wx
      obtain ⟨m,hm,rfl,HM,hbx⟩:=hrel;have HBX:=hid hbx;have hBX:=hbx.size;have e3:=HL3.out wx hbx
      by_cases hlm:m<ex.length
      ·obtain ⟨gx,hxe,hgx,t0,t1,t2⟩:=(HTX.out.below hbx) m hlm
       subst hxe;have HMN:=hid (fun (h:knownP (plL X) L ex[m])=>show ∀ j,∀ h:j<ex.length,j<m+1→knownP (plL X) L ex[j] from fun j hj hjm=>by
        by_cases hjj:j=m
        ·subst hjj;exact h
        ·exact HM.out j hj (by omega))
       have HMX:=hid (fun (h:T)=>(HS2.out.2 h).1 _ (List.getElem_mem hlm));obtain ⟨t,ht⟩:∃ t,ex[m]=t:=⟨_,rfl⟩;rw [ht] at HMN HMX t0 t1 t2;have HKB:=hid (knownB_iff (plL X) L t);obtain ⟨tk,tn,tm⟩:=t;dsimp only at t0 t1 t2;have m0:(0:Int)≤(m:Int):=by omega
       have m1:(m:Int)<(ex.length:Int):=by omega
       have hb6:=(Below.refl wx.heap.size wx).alloc (Nat.le_refl _) (.cells #[.int .i64 tk,.int .i64 tn,.string tm] 147);have HB6:Hid (Below wr.heap.size wr (wx.alloc (.cells #[.int .i64 tk,.int .i64 tn,.string tm] 147))):=hid (hbx.trans (hb6.mono hBX));have HB6w:Hid (Below w.heap.size w (wx.alloc (.cells #[.int .i64 tk,.int .i64 tn,.string tm] 147))):=hid (HB.out.trans (HB6.out.mono hB));have X6:=hid (heap_alloc_new wx (.cells #[.int .i64 tk,.int .i64 tn,.string tm] 147));have tz6:(wx.alloc (.cells #[.int .i64 tk,.int .i64 tn,.string tm] 147)).heap.size=wx.heap.size+1:=by simp
       clear ht hbx hb6 HM
       by_cases h1:tk=1
       ·subst h1
        have HIX:=hid (s_l04Index al cl L tm (wx.alloc (.cells #[.int .i64 1,.int .i64 tn,.string tm] 147)) (HRS.out _ HB6.out) (by omega));have HIL:=hid (ixS_lt L tm);have HKV:Hid (knownB (plL X) L ⟨1,tn,tm⟩=memB L tm):=hid rfl;obtain ⟨r,hr⟩:∃ r,ixS L tm=r:=⟨_,rfl⟩;rw [hr] at HIX HIL;obtain ⟨b,hb⟩:∃ b,memB L tm=b:=⟨_,rfl⟩;rw [hb] at HIL HKV;clear hr hb
        cases b
        ·have hdr:decide (r<0)=true:=HIL.out
         have HV:Hid (¬ T):=hid (fun h=>by
          have:=HKB.out.2 (HMX.out h)
          rw [HKV.out] at this
          cases this)
         clear HKB HMX HMN HKV HIL;go_wp2_with fail;refine HIX.out.mono ?_;rintro _ w7 ⟨rfl,b7⟩;have HB7:Hid (Below w.heap.size w w7):=hid (HB6w.out.trans (b7.mono (by omega)));clear b7 t0 t1 t2 e3;go_wp2;go_ret;exact Ans.of false rfl (by first|exact ⟨(fun h=>by cases h),(fun h=>absurd h.2 HV.out)⟩|exact ⟨(fun h=>by cases h),(fun h=>absurd h HV.out)⟩) HB7.out
        ·have hdr:decide (r<0)=false:=HIL.out
         have HN:=hid (HMN.out (HKB.out.1 (HKV.out)));clear HKB HMX HMN HKV HIL;go_wp2_with fail;refine HIX.out.mono ?_;rintro _ w7 ⟨rfl,b7⟩;have HB7:Hid (Below wr.heap.size wr w7):=hid (HB6.out.trans (b7.mono (by omega)));have X7:=hid ((b7.block _ (by omega)).trans X6.out);have u0:w7.cell? ⟨wx.heap.size,0,none⟩=some (.int .i64 1):=(blk X7.out).1 0 _ rfl;clear b7 t0 t1 t2 e3;go_wp2;go_roundw
         case rel=>exact ⟨m+1,by omega,by go_num,HN,HB7.out⟩
         case measure=>simp [RowKit.intOf];omega
       have a1:(tk == 1)=false:=by simpa using h1
       by_cases h7:tk=7
       ·subst h7
        have HFF:=hid (s_findFn (some ⟨g,0,none⟩) cap X tm _ (by omega) (HR.out.below HB6w.out));have HKV:Hid (knownB (plL X) L ⟨7,tn,tm⟩=(decide (0≤findZ (plL X) tm)&&decide (((argsZ (plL X) (findZ (plL X) tm)).length:Int)=tn))):=hid rfl;have HBD:=hid (findZ_bd (plL X) tm)
        by_cases h0:0≤findZ (plL X) tm
        ·obtain ⟨f,hf⟩:=Int.eq_ofNat_of_zero_le h0
         have hfX:f<X.length:=by have:=HBD.out;omega
         obtain ⟨g2,hga,hg2,⟨_,_,c2,_⟩,hmf⟩:=(HR.out.below HB6w.out) f hfX;injection hga with hga
         injection hga with hga
         subst hga;obtain ⟨fa,_,fc,_,ea,_,_,_,_,_⟩:=inMem_shape hmf;rw [ea] at c2;have HVV:Hid (knownB (plL X) L ⟨7,tn,tm⟩=decide ((X[f].args.length:Int)=tn)):=hid (by
          rw [HKV.out,hf,argsZ_at X f hfX,decide_eq_true (by omega)];rfl)
         rw [hf] at HFF;generalize X[f].args.length=na at *;have f0:(0:Int)≤(f:Int):=by omega
         have f1:(f:Int)<(X.length:Int):=by omega
         have hd0:decide ((f:Int)<0)=false:=decide_eq_false (by omega);clear hf h0 hmf ea HKV HBD;go_wp2_with fail;refine HFF.out.mono ?_;rintro _ w7 ⟨rfl,b7⟩;have HB7:Hid (Below wr.heap.size wr w7):=hid (HB6.out.trans (b7.mono (by omega)));have HB7w:Hid (Below w.heap.size w w7):=hid (HB6w.out.trans (b7.mono (by omega)));have X7:=hid ((b7.block _ (by omega)).trans X6.out);have u1:w7.cell? ⟨wx.heap.size,1,none⟩=some (.int .i64 tn):=(blk X7.out).1 1 _ rfl;have d2:w7.cell? ⟨g,f*4+2,none⟩=some (.slice fa na fc):=(b7.cell (p:=⟨g,f*4+2,none⟩) hg2).trans c2;clear b7 c2 t0 t1 t2 e3
         by_cases hna:(na:Int)=tn
         ·have hdn:((na:Int) != tn)=false:=by simpa using hna
          have HN:=hid (HMN.out (HKB.out.1 (HVV.out.trans (decide_eq_true hna))));clear hna HVV HKB HMX HMN;go_wp2_with fail;go_quiet (fail)
          all_goals
           go_wp2;go_roundw
           case rel=>exact ⟨m+1,by omega,by go_num,HN,below_drewN HB7.out _⟩
           case measure=>simp [RowKit.intOf];omega
         ·have hdn:((na:Int) != tn)=true:=by simpa using hna
          have HV:Hid (¬ T):=hid (fun h=>by
           have:=HKB.out.2 (HMX.out h)
           rw [HVV.out,decide_eq_false hna] at this
           cases this)
          clear hna HVV HKB HMX HMN;go_wp2_with fail;go_quiet (fail)
          all_goals
           go_wp2;go_ret;exact Ans.of false rfl (by first|exact ⟨(fun h=>by cases h),(fun h=>absurd h.2 HV.out)⟩|exact ⟨(fun h=>by cases h),(fun h=>absurd h HV.out)⟩) (below_drewN HB7w.out _)
        ·have HV:Hid (¬ T):=hid (fun h=>by
          have:=HKB.out.2 (HMX.out h)
          rw [HKV.out,decide_eq_false h0] at this
          cases this)
         obtain ⟨r,hr⟩:∃ r,findZ (plL X) tm=r:=⟨_,rfl⟩;rw [hr] at HFF h0;have hd0:decide (r<0)=true:=decide_eq_true (by omega);clear hr HKV HBD HKB HMX HMN;go_wp2_with fail;refine HFF.out.mono ?_;rintro _ w7 ⟨rfl,b7⟩;have HB7w:Hid (Below w.heap.size w w7):=hid (HB6w.out.trans (b7.mono (by omega)));clear b7 t0 t1 t2 e3;go_wp2_with fail;go_quiet (fail)
         all_goals
          go_wp2;go_ret;exact Ans.of false rfl (by first|exact ⟨(fun h=>by cases h),(fun h=>absurd h.2 HV.out)⟩|exact ⟨(fun h=>by cases h),(fun h=>absurd h HV.out)⟩) (below_drewN HB7w.out _)
       ·have a7:(tk == 7)=false:=by simpa using h7
        have HN:=hid (HMN.out (HKB.out.1 (by unfold knownB;rw [if_neg h1,if_neg h7])));clear h1 h7 HKB HMX HMN;go_wp2;go_roundw
        case rel=>exact ⟨m+1,by omega,by go_num,HN,HB6.out⟩
        case measure=>simp [RowKit.intOf];omega
      ·have HN:Hid (bodyL (plL X) k L (D+-1) (q+1) (segZ (plL X) (q+1) E)↔T):=hid (by
        rw [← HS2.out];refine ⟨fun h=>⟨fun t ht=>?_,h⟩,fun h=>h.2⟩;obtain ⟨j,hj,rfl⟩:=List.mem_iff_getElem.1 ht;exact HM.out j hj (by omega))
       have hmm:m=ex.length:=by omega
       have HBE:Hid (Below w.heap.size w wx):=hid (HB.out.trans (hbx.mono hB));have HBE2:Hid (Below w2.heap.size w2 wx):=hid (HC.out.trans (hbx.mono hC));subst hmm;clear hbx HM HS2;go_wp2;go_roundw
       case rel=>exact ⟨q+1,D+-1,by omega,by omega,by go_num,by go_num,by omega,by omega,HN,HBE.out,HBE2.out⟩
       case measure=>simp [RowKit.intOf];omega
   have a7:(kd == 7)=false:=by simpa using hk7
   ·have oz:opn kd=0:=by
     rcases opn_cases kd with h|h|h
     ·have:=h.2;unfold isOp at this;rw [a0,a3,a5] at this;cases this
     ·exact absurd h.2 hk7
     ·exact h.1
    rw [oz,Int.add_zero] at HST;have HS:Hid ((D≤4∧(∀ t ∈ ex,knownP (plL X) L t)∧bodyL (plL X) k L (D) (q+1) (segZ (plL X) (q+1) E))↔T):=hid (by
     rw [← HST.out];exact ⟨fun h=>⟨⟨hk0,(fun h4=>absurd h4 hk4),h.1,h.2.1⟩,h.2.2⟩,fun h=>⟨h.1.2.2.1,h.1.2.2.2,h.2⟩⟩)
    clear HST;clear o3 o5 o7 o4;have HQ:Hid (Below wr.heap.size wr wr):=hid (Below.refl _ _)
    by_cases h4:4<D
    ·have HV:Hid (¬ T):=hid (fun h=>by have:=(HS.out.2 h).1;omega)
     have hd4:decide (4<D)=true:=decide_eq_true h4;have HBF:Hid (Below w.heap.size w wr):=hid (HB.out.trans (HQ.out.mono hB));clear HS;go_wp2;go_ret;exact Ans.of false rfl (by first|exact ⟨(fun h=>by cases h),(fun h=>absurd h.2 HV.out)⟩|exact ⟨(fun h=>by cases h),(fun h=>absurd h HV.out)⟩) HBF.out
    ·have HS2:Hid (((∀ t ∈ ex,knownP (plL X) L t)∧bodyL (plL X) k L (D) (q+1) (segZ (plL X) (q+1) E))↔T):=hid (by
      rw [← HS.out];exact ⟨fun h=>⟨by omega,h⟩,fun h=>h.2⟩)
     have hd4:decide (4<D)=false:=decide_eq_false h4;clear HS;go_wp2_with fail
     go_loopw [12,13,14] (fun i _ _ wx=>∃ m:Nat,m≤ex.length∧i=.int .i64 (m:Int)∧Hid (∀ j,∀ h:j<ex.length,j<m→knownP (plL X) L ex[j])∧Below wr.heap.size wr wx) (fun i _ _ _=>ex.length - (RowKit.intOf i).toNat)
     case atStart=>exact ⟨0,Nat.zero_le _,rfl,hid (fun j _ h=>by omega),HQ.out⟩
     case round =>
      rename World=>wx
      obtain ⟨m,hm,rfl,HM,hbx⟩:=hrel;have HBX:=hid hbx;have hBX:=hbx.size;have e3:=HL3.out wx hbx
      by_cases hlm:m<ex.length
      ·obtain ⟨gx,hxe,hgx,t0,t1,t2⟩:=(HTX.out.below hbx) m hlm
       subst hxe;have HMN:=hid (fun (h:knownP (plL X) L ex[m])=>show ∀ j,∀ h:j<ex.length,j<m+1→knownP (plL X) L ex[j] from fun j hj hjm=>by
        by_cases hjj:j=m
        ·subst hjj;exact h
        ·exact HM.out j hj (by omega))
       have HMX:=hid (fun (h:T)=>(HS2.out.2 h).1 _ (List.getElem_mem hlm));obtain ⟨t,ht⟩:∃ t,ex[m]=t:=⟨_,rfl⟩;rw [ht] at HMN HMX t0 t1 t2;have HKB:=hid (knownB_iff (plL X) L t);obtain ⟨tk,tn,tm⟩:=t;dsimp only at t0 t1 t2;have m0:(0:Int)≤(m:Int):=by omega
       have m1:(m:Int)<(ex.length:Int):=by omega
       have hb6:=(Below.refl wx.heap.size wx).alloc (Nat.le_refl _) (.cells #[.int .i64 tk,.int .i64 tn,.string tm] 147);have HB6:Hid (Below wr.heap.size wr (wx.alloc (.cells #[.int .i64 tk,.int .i64 tn,.string tm] 147))):=hid (hbx.trans (hb6.mono hBX));have HB6w:Hid (Below w.heap.size w (wx.alloc (.cells #[.int .i64 tk,.int .i64 tn,.string tm] 147))):=hid (HB.out.trans (HB6.out.mono hB));have X6:=hid (heap_alloc_new wx (.cells #[.int .i64 tk,.int .i64 tn,.string tm] 147));have tz6:(wx.alloc (.cells #[.int .i64 tk,.int .i64 tn,.string tm] 147)).heap.size=wx.heap.size+1:=by simp
       clear ht hbx hb6 HM
       by_cases h1:tk=1
       ·subst h1
        have HIX:=hid (s_l04Index al cl L tm (wx.alloc (.cells #[.int .i64 1,.int .i64 tn,.string tm] 147)) (HRS.out _ HB6.out) (by omega));have HIL:=hid (ixS_lt L tm);have HKV:Hid (knownB (plL X) L ⟨1,tn,tm⟩=memB L tm):=hid rfl;obtain ⟨r,hr⟩:∃ r,ixS L tm=r:=⟨_,rfl⟩;rw [hr] at HIX HIL;obtain ⟨b,hb⟩:∃ b,memB L tm=b:=⟨_,rfl⟩;rw [hb] at HIL HKV;clear hr hb
        cases b
        ·have hdr:decide (r<0)=true:=HIL.out
         have HV:Hid (¬ T):=hid (fun h=>by
          have:=HKB.out.2 (HMX.out h)
          rw [HKV.out] at this
          cases this)
         clear HKB HMX HMN HKV HIL;go_wp2_with fail;refine HIX.out.mono ?_;rintro _ w7 ⟨rfl,b7⟩;have HB7:Hid (Below w.heap.size w w7):=hid (HB6w.out.trans (b7.mono (by omega)));clear b7 t0 t1 t2 e3;go_wp2;go_ret;exact Ans.of false rfl (by first|exact ⟨(fun h=>by cases h),(fun h=>absurd h.2 HV.out)⟩|exact ⟨(fun h=>by cases h),(fun h=>absurd h HV.out)⟩) HB7.out
        ·have hdr:decide (r<0)=false:=HIL.out
         have HN:=hid (HMN.out (HKB.out.1 (HKV.out)));clear HKB HMX HMN HKV HIL;go_wp2_with fail;refine HIX.out.mono ?_;rintro _ w7 ⟨rfl,b7⟩;have HB7:Hid (Below wr.heap.size wr w7):=hid (HB6.out.trans (b7.mono (by omega)));have X7:=hid ((b7.block _ (by omega)).trans X6.out);have u0:w7.cell? ⟨wx.heap.size,0,none⟩=some (.int .i64 1):=(blk X7.out).1 0 _ rfl;clear b7 t0 t1 t2 e3;go_wp2;go_roundw
         case rel=>exact ⟨m+1,by omega,by go_num,HN,HB7.out⟩
         case measure=>simp [RowKit.intOf];omega
       have a1:(tk == 1)=false:=by simpa using h1
       by_cases h7:tk=7
       ·subst h7
        have HFF:=hid (s_findFn (some ⟨g,0,none⟩) cap X tm _ (by omega) (HR.out.below HB6w.out));have HKV:Hid (knownB (plL X) L ⟨7,tn,tm⟩=(decide (0≤findZ (plL X) tm)&&decide (((argsZ (plL X) (findZ (plL X) tm)).length:Int)=tn))):=hid rfl;have HBD:=hid (findZ_bd (plL X) tm)
        by_cases h0:0≤findZ (plL X) tm
        ·obtain ⟨f,hf⟩:=Int.eq_ofNat_of_zero_le h0
         have hfX:f<X.length:=by have:=HBD.out;omega
         obtain ⟨g2,hga,hg2,⟨_,_,c2,_⟩,hmf⟩:=(HR.out.below HB6w.out) f hfX;injection hga with hga
         injection hga with hga
         subst hga;obtain ⟨fa,_,fc,_,ea,_,_,_,_,_⟩:=inMem_shape hmf;rw [ea] at c2;have HVV:Hid (knownB (plL X) L ⟨7,tn,tm⟩=decide ((X[f].args.length:Int)=tn)):=hid (by
          rw [HKV.out,hf,argsZ_at X f hfX,decide_eq_true (by omega)];rfl)
         rw [hf] at HFF;generalize X[f].args.length=na at *;have f0:(0:Int)≤(f:Int):=by omega
         have f1:(f:Int)<(X.length:Int):=by omega
         have hd0:decide ((f:Int)<0)=false:=decide_eq_false (by omega);clear hf h0 hmf ea HKV HBD;go_wp2_with fail;refine HFF.out.mono ?_;rintro _ w7 ⟨rfl,b7⟩;have HB7:Hid (Below wr.heap.size wr w7):=hid (HB6.out.trans (b7.mono (by omega)));have HB7w:Hid (Below w.heap.size w w7):=hid (HB6w.out.trans (b7.mono (by omega)));have X7:=hid ((b7.block _ (by omega)).trans X6.out);have u1:w7.cell? ⟨wx.heap.size,1,none⟩=some (.int .i64 tn):=(blk X7.out).1 1 _ rfl;have d2:w7.cell? ⟨g,f*4+2,none⟩=some (.slice fa na fc):=(b7.cell (p:=⟨g,f*4+2,none⟩) hg2).trans c2;clear b7 c2 t0 t1 t2 e3
         by_cases hna:(na:Int)=tn
         ·have hdn:((na:Int) != tn)=false:=by simpa using hna
          have HN:=hid (HMN.out (HKB.out.1 (HVV.out.trans (decide_eq_true hna))));clear hna HVV HKB HMX HMN;go_wp2_with fail;go_quiet (fail)
          all_goals
           go_wp2;go_roundw
           case rel=>exact ⟨m+1,by omega,by go_num,HN,below_drewN HB7.out _⟩
           case measure=>simp [RowKit.intOf];omega
         ·have hdn:((na:Int) != tn)=true:=by simpa using hna
          have HV:Hid (¬ T):=hid (fun h=>by
           have:=HKB.out.2 (HMX.out h)
           rw [HVV.out,decide_eq_false hna] at this
           cases this)
          clear hna HVV HKB HMX HMN;go_wp2_with fail;go_quiet (fail)
          all_goals
           go_wp2;go_ret;exact Ans.of false rfl (by first|exact ⟨(fun h=>by cases h),(fun h=>absurd h.2 HV.out)⟩|exact ⟨(fun h=>by cases h),(fun h=>absurd h HV.out)⟩) (below_drewN HB7w.out _)
        ·have HV:Hid (¬ T):=hid (fun h=>by
          have:=HKB.out.2 (HMX.out h)
          rw [HKV.out,decide_eq_false h0] at this
          cases this)
         obtain ⟨r,hr⟩:∃ r,findZ (plL X) tm=r:=⟨_,rfl⟩;rw [hr] at HFF h0;have hd0:decide (r<0)=true:=decide_eq_true (by omega);clear hr HKV HBD HKB HMX HMN;go_wp2_with fail;refine HFF.out.mono ?_;rintro _ w7 ⟨rfl,b7⟩;have HB7w:Hid (Below w.heap.size w w7):=hid (HB6w.out.trans (b7.mono (by omega)));clear b7 t0 t1 t2 e3;go_wp2_with fail;go_quiet (fail)
         all_goals
          go_wp2;go_ret;exact Ans.of false rfl (by first|exact ⟨(fun h=>by cases h),(fun h=>absurd h.2 HV.out)⟩|exact ⟨(fun h=>by cases h),(fun h=>absurd h HV.out)⟩) (below_drewN HB7w.out _)
       ·have a7:(tk == 7)=false:=by simpa using h7
        have HN:=hid (HMN.out (HKB.out.1 (by unfold knownB;rw [if_neg h1,if_neg h7])));clear h1 h7 HKB HMX HMN;go_wp2;go_roundw
        case rel=>exact ⟨m+1,by omega,by go_num,HN,HB6.out⟩
        case measure=>simp [RowKit.intOf];omega
      ·have HN:Hid (bodyL (plL X) k L (D) (q+1) (segZ (plL X) (q+1) E)↔T):=hid (by
        rw [← HS2.out];refine ⟨fun h=>⟨fun t ht=>?_,h⟩,fun h=>h.2⟩;obtain ⟨j,hj,rfl⟩:=List.mem_iff_getElem.1 ht;exact HM.out j hj (by omega))
       have hmm:m=ex.length:=by omega
       have HBE:Hid (Below w.heap.size w wx):=hid (HB.out.trans (hbx.mono hB));have HBE2:Hid (Below w2.heap.size w2 wx):=hid (HC.out.trans (hbx.mono hC));subst hmm;clear hbx HM HS2;go_wp2;go_roundw
       case rel=>exact ⟨q+1,D,by omega,by omega,by go_num,by go_num,by omega,by omega,HN,HBE.out,HBE2.out⟩
       case measure=>simp [RowKit.intOf];omega
  ·have hqq:q=E:=by omega
   have HV:Hid T:=hid (by
    have:=HP.out
    rw [hqq,seg_end] at this;exact this.1 trivial)
   subst hqq;clear hbel hbel2 HP;go_wp2;go_ret;exact Ans.of true rfl (by first|exact ⟨(fun _=>⟨hL8,HV.out⟩),(fun _=>rfl)⟩|exact ⟨(fun _=>HV.out),(fun _=>rfl)⟩) HB.out
end Go.Proofs.YtcflojdkaddemaaGreatDoor
